/- Drawing of rows and a key for FlowTimes: the contract. -/
import Derived.Test.YtpjmkejojenflaaGreatGd6
/-! Drawing of rows and a key for FlowTimes: the contract. -/
namespace Go.Proofs.YtpjmkejojenflaaGreat
open Go.RowKit

theorem FillK.key {c : Array Value} {L : List Rw} {n i : Nat} {K V D : Int} {T : Int × Int} (h : FillK rowC 5 c L n) (hi : L[i]? = some (((K, V), T), D)) (hin : i < n) (hs : i * 5 < c.size) (K' : Int) :
    FillK rowC 5 (c.setIfInBounds (i * 5) (.int .i64 K')) (L.set i (((K', V), T), D)) n := by
  intro j x hj hx q hq
  have hil := (List.getElem?_eq_some_iff.1 hi).1
  rw [List.getElem?_set] at hx
  rw [Array.getElem?_setIfInBounds]
  by_cases e : i = j
  · subst e
    rw [if_pos rfl, if_pos hil] at hx
    cases hx
    obtain rfl | hq4 : q = 0 ∨ 0 < q := by omega
    · rw [if_pos (by omega), if_pos (by omega)]; rfl
    · rw [if_neg (by omega), h i _ hin hi q hq]
      match q, hq4, hq with
      | 1, _, _ => rfl
      | 2, _, _ => rfl
      | 3, _, _ => rfl
      | 4, _, _ => rfl
  · rw [if_neg e] at hx
    rw [if_neg (by omega), h j x hj hx q hq]
theorem row_key {w : World} {B : Nat} {v : Value} {L : List Rw} (h : OwnR w B v L) {i : Nat} (hi : i < L.length) (K' : Int) :
    ∃ g cap u, v = .slice (some ⟨g, 0, none⟩) L.length cap ∧ B ≤ g ∧ g < w.heap.size ∧ w.frozen? ⟨g, i * 5, none⟩ = false ∧ w.cell? ⟨g, i * 5, none⟩ = some u ∧ ∃ L' : List Rw, L'.length = L.length ∧ OwnR (w.setCell ⟨g, i * 5, none⟩ (.int .i64 K')) B v L' := by
  rcases ownK_open h rowC_len with ⟨rfl, rfl⟩ | ⟨g, cap, c, rfl, hg, hb, hs, hc, hm, hf⟩
  · simp at hi
  · obtain ⟨⟨⟨⟨K, V⟩, T⟩, D⟩, hr⟩ : ∃ r, L[i]? = some r := ⟨_, List.getElem?_eq_getElem hi⟩
    have hsz : i * 5 < c.size := by rw [hs]; omega
    refine ⟨g, cap, _, rfl, hg, hb.lt, hb.free _, hb.cell (Array.getElem?_eq_getElem hsz), L.set i (((K', V), T), D), by simp, ?_⟩
    have := ownK_of_fill (B := B) (hb.set (i * 5) (.int .i64 K')) (l := L.set i (((K', V), T), D)) (by rw [List.length_set]; exact hf.key hr hi hsz K') rowC_len (by simpa using hs) (by simpa using hc) hm hg
    simpa using this
end Go.Proofs.YtpjmkejojenflaaGreat

/-! Drawing of rows and a kind of sum: the contract. -/
namespace Go.Proofs.YtpjmkejojenflaaGreat
open Go.RowKit

abbrev kinA : Array Value := #[.int .i64 0, .int .i64 4, .int .i64 (-1)]
theorem kin_at {j : Nat} (h : j < 3) : ∃ V : Int, kinA[j]? = some (.int .i64 V) := by
  obtain rfl | rfl | rfl : j = 0 ∨ j = 1 ∨ j = 2 := by omega
  all_goals exact ⟨_, rfl⟩
/-- What each operation of the region that has come up has left. -/
structure KinS (g : Nat) (o : Value) (L : Array Bool) (W : World) (t13 t14 t15 t16 t17 t18 t2 t3 : Value) : Prop where
  s0 : L.getD 0 false = true → t13 = o
  s1 : L.getD 1 false = true → ∃ b : Nat, b ≠ g ∧ Bk W b kinA 3 ∧ t14 = .slice (some ⟨b, 0, none⟩) 3 3
  s2 : L.getD 2 false = true → t15 = .pointer (some ⟨g, 0, none⟩)
  s3 : L.getD 3 false = true → ∃ j : Nat, j < 3 ∧ t16 = .int .i64 j
  s4 : L.getD 4 false = true → ∃ b j : Nat, b ≠ g ∧ j < 3 ∧ Bk W b kinA 3 ∧ t17 = .pointer (some ⟨b, j, none⟩)
  s5 : L.getD 5 false = true → ∃ V : Int, t18 = .int .i64 V
  s6 : L.getD 6 false = true → t2 = o
  s7 : L.getD 7 false = true → ∃ V : Int, t3 = .int .i64 V
section
variable {g : Nat} {o : Value} {L : Array Bool} {W W' : World} {t13 t14 t15 t16 t17 t18 t2 t3 : Value}
theorem KinS.keep (h : KinS g o L W t13 t14 t15 t16 t17 t18 t2 t3) (hx : Bx g W W') : KinS g o L W' t13 t14 t15 t16 t17 t18 t2 t3 where
  s0 := h.s0
  s1 := fun e => by obtain ⟨b, h2, h3, h4⟩ := h.s1 e; exact ⟨b, h2, h3.keepx hx h2, h4⟩
  s2 := h.s2
  s3 := h.s3
  s4 := fun e => by obtain ⟨b, j, h2, h3, h4, h5⟩ := h.s4 e; exact ⟨b, j, h2, h3, h4.keepx hx h2, h5⟩
  s5 := h.s5
  s6 := h.s6
  s7 := h.s7
theorem KinS.put0 {u : Value} (h : KinS g o L W t13 t14 t15 t16 t17 t18 t2 t3) (hu : u = o) : KinS g o (L.setIfInBounds 0 true) W u t14 t15 t16 t17 t18 t2 t3 where
  s0 := fun _ => hu
  s1 := fun e => h.s1 (getD_set (by decide) e)
  s2 := fun e => h.s2 (getD_set (by decide) e)
  s3 := fun e => h.s3 (getD_set (by decide) e)
  s4 := fun e => h.s4 (getD_set (by decide) e)
  s5 := fun e => h.s5 (getD_set (by decide) e)
  s6 := fun e => h.s6 (getD_set (by decide) e)
  s7 := fun e => h.s7 (getD_set (by decide) e)
theorem KinS.put1 {u : Value} (h : KinS g o L W t13 t14 t15 t16 t17 t18 t2 t3) (hu : ∃ b : Nat, b ≠ g ∧ Bk W b kinA 3 ∧ u = .slice (some ⟨b, 0, none⟩) 3 3) : KinS g o (L.setIfInBounds 1 true) W t13 u t15 t16 t17 t18 t2 t3 where
  s0 := fun e => h.s0 (getD_set (by decide) e)
  s1 := fun _ => hu
  s2 := fun e => h.s2 (getD_set (by decide) e)
  s3 := fun e => h.s3 (getD_set (by decide) e)
  s4 := fun e => h.s4 (getD_set (by decide) e)
  s5 := fun e => h.s5 (getD_set (by decide) e)
  s6 := fun e => h.s6 (getD_set (by decide) e)
  s7 := fun e => h.s7 (getD_set (by decide) e)
theorem KinS.put2 {u : Value} (h : KinS g o L W t13 t14 t15 t16 t17 t18 t2 t3) (hu : u = .pointer (some ⟨g, 0, none⟩)) : KinS g o (L.setIfInBounds 2 true) W t13 t14 u t16 t17 t18 t2 t3 where
  s0 := fun e => h.s0 (getD_set (by decide) e)
  s1 := fun e => h.s1 (getD_set (by decide) e)
  s2 := fun _ => hu
  s3 := fun e => h.s3 (getD_set (by decide) e)
  s4 := fun e => h.s4 (getD_set (by decide) e)
  s5 := fun e => h.s5 (getD_set (by decide) e)
  s6 := fun e => h.s6 (getD_set (by decide) e)
  s7 := fun e => h.s7 (getD_set (by decide) e)
theorem KinS.put3 {u : Value} (h : KinS g o L W t13 t14 t15 t16 t17 t18 t2 t3) (hu : ∃ j : Nat, j < 3 ∧ u = .int .i64 j) : KinS g o (L.setIfInBounds 3 true) W t13 t14 t15 u t17 t18 t2 t3 where
  s0 := fun e => h.s0 (getD_set (by decide) e)
  s1 := fun e => h.s1 (getD_set (by decide) e)
  s2 := fun e => h.s2 (getD_set (by decide) e)
  s3 := fun _ => hu
  s4 := fun e => h.s4 (getD_set (by decide) e)
  s5 := fun e => h.s5 (getD_set (by decide) e)
  s6 := fun e => h.s6 (getD_set (by decide) e)
  s7 := fun e => h.s7 (getD_set (by decide) e)
theorem KinS.put4 {u : Value} (h : KinS g o L W t13 t14 t15 t16 t17 t18 t2 t3) (hu : ∃ b j : Nat, b ≠ g ∧ j < 3 ∧ Bk W b kinA 3 ∧ u = .pointer (some ⟨b, j, none⟩)) : KinS g o (L.setIfInBounds 4 true) W t13 t14 t15 t16 u t18 t2 t3 where
  s0 := fun e => h.s0 (getD_set (by decide) e)
  s1 := fun e => h.s1 (getD_set (by decide) e)
  s2 := fun e => h.s2 (getD_set (by decide) e)
  s3 := fun e => h.s3 (getD_set (by decide) e)
  s4 := fun _ => hu
  s5 := fun e => h.s5 (getD_set (by decide) e)
  s6 := fun e => h.s6 (getD_set (by decide) e)
  s7 := fun e => h.s7 (getD_set (by decide) e)
theorem KinS.put5 {u : Value} (h : KinS g o L W t13 t14 t15 t16 t17 t18 t2 t3) (hu : ∃ V : Int, u = .int .i64 V) : KinS g o (L.setIfInBounds 5 true) W t13 t14 t15 t16 t17 u t2 t3 where
  s0 := fun e => h.s0 (getD_set (by decide) e)
  s1 := fun e => h.s1 (getD_set (by decide) e)
  s2 := fun e => h.s2 (getD_set (by decide) e)
  s3 := fun e => h.s3 (getD_set (by decide) e)
  s4 := fun e => h.s4 (getD_set (by decide) e)
  s5 := fun _ => hu
  s6 := fun e => h.s6 (getD_set (by decide) e)
  s7 := fun e => h.s7 (getD_set (by decide) e)
theorem KinS.put6 {u : Value} (h : KinS g o L W t13 t14 t15 t16 t17 t18 t2 t3) (hu : u = o) : KinS g o (L.setIfInBounds 6 true) W t13 t14 t15 t16 t17 t18 u t3 where
  s0 := fun e => h.s0 (getD_set (by decide) e)
  s1 := fun e => h.s1 (getD_set (by decide) e)
  s2 := fun e => h.s2 (getD_set (by decide) e)
  s3 := fun e => h.s3 (getD_set (by decide) e)
  s4 := fun e => h.s4 (getD_set (by decide) e)
  s5 := fun e => h.s5 (getD_set (by decide) e)
  s6 := fun _ => hu
  s7 := fun e => h.s7 (getD_set (by decide) e)
theorem KinS.put7 {u : Value} (h : KinS g o L W t13 t14 t15 t16 t17 t18 t2 t3) (hu : ∃ V : Int, u = .int .i64 V) : KinS g o (L.setIfInBounds 7 true) W t13 t14 t15 t16 t17 t18 t2 u where
  s0 := fun e => h.s0 (getD_set (by decide) e)
  s1 := fun e => h.s1 (getD_set (by decide) e)
  s2 := fun e => h.s2 (getD_set (by decide) e)
  s3 := fun e => h.s3 (getD_set (by decide) e)
  s4 := fun e => h.s4 (getD_set (by decide) e)
  s5 := fun e => h.s5 (getD_set (by decide) e)
  s6 := fun e => h.s6 (getD_set (by decide) e)
  s7 := fun _ => hu
def KinI (g B n : Nat) (v o : Value) (p : Int) (w0 : World) (L : Array Bool) (a : Act) (W : World) : Prop :=
  L.size = 8 ∧ (L.getD 3 true = false → Rd B W g v n p) ∧ Bx g w0 W ∧ ∃ z0 z1 t2 t3 z6 z7 z8 z9 z10 z11 z12 z13 z14 z15 z16 z17 z18 z19 z20 z21 z22 z23 z24 z25 z26 z27 z28 z29 z30 z31 z32 z33 z34 z35 z36 z37 z38 z39 z40 z41 z42 z43 z44 t13 t14 t15 t16 t17 t18 z51 z52 z53 z54 : Value,
    a = { tmps := #[z0, z1, t2, t3, .pointer (some ⟨g, 0, none⟩), o, z6, z7, z8, z9, z10, z11, z12, z13, z14, z15, z16, z17, z18, z19, z20, z21, z22, z23, z24, z25, z26, z27, z28, z29, z30, z31, z32, z33, z34, z35, z36, z37, z38, z39, z40, z41, z42, z43, z44, t13, t14, t15, t16, t17, t18, z51, z52, z53, z54], defers := [] } ∧ KinS g o L W t13 t14 t15 t16 t17 t18 t2 t3
theorem kinI_next {B n i : Nat} {v : Value} {p : Int} {w0 : World} {z0 z1 z6 z7 z8 z9 z10 z11 z12 z13 z14 z15 z16 z17 z18 z19 z20 z21 z22 z23 z24 z25 z26 z27 z28 z29 z30 z31 z32 z33 z34 z35 z36 z37 z38 z39 z40 z41 z42 z43 z44 z51 z52 z53 z54 : Value} (hLs : L.size = 8) (hx : Bx g w0 W) (hxW : Bx g W W') (hR : (L.setIfInBounds i true).getD 3 true = false → Rd B W' g v n p) (S : KinS g o (L.setIfInBounds i true) W' t13 t14 t15 t16 t17 t18 t2 t3) :
    KinI g B n v o p w0 (L.setIfInBounds i true) { tmps := #[z0, z1, t2, t3, .pointer (some ⟨g, 0, none⟩), o, z6, z7, z8, z9, z10, z11, z12, z13, z14, z15, z16, z17, z18, z19, z20, z21, z22, z23, z24, z25, z26, z27, z28, z29, z30, z31, z32, z33, z34, z35, z36, z37, z38, z39, z40, z41, z42, z43, z44, t13, t14, t15, t16, t17, t18, z51, z52, z53, z54], defers := [] } W' :=
  ⟨by simp [hLs], hR, hx.trans hxW, _, _, _, _, _, _, _, _, _, _, _, _, _, _, _, _, _, _, _, _, _, _, _, _, _, _, _, _, _, _, _, _, _, _, _, _, _, _, _, _, _, _, _, _, _, _, _, _, _, _, _, _, _, rfl, S⟩
end
/-- A Diff that is in form is small. -/
def dsm (r : Rw) : Prop := -99999 ≤ r.2 ∧ r.2 ≤ 99999 → -3 ≤ r.2 ∧ r.2 ≤ 3
def drD (l : List Rw) : Prop := l.length ≤ 11 ∧ ∀ r ∈ l, dsm r
theorem drD.drR {l : List Rw} (h : drD l) : drR l := ⟨h.1, fun hk r hr => ⟨rok_at hk hr, h.2 r hr (rw_diff (rok_at hk hr))⟩⟩
set_option maxRecDepth 100000 in
set_option maxHeartbeats 16000000 in
theorem l71Spoil2_any {B : Nat} {w : World} {g : Nat} {v : Value} {n : Nat} {p : Int} (h : Rd B w g v n p) (hp : 0 ≤ p) (hp' : p ≤ 700000) (lv : Value) (l : List Rw) (hl : Rs w lv l) (hl1 : l.length ≤ 1000) (hlx : ∀ W, Bx g w W → Rs W lv l) :
    Calls Tryz.prog 78 #[.pointer (some ⟨g, 0, none⟩), lv] w fun e w' => ∃ (o : Value) (l' : List Rw), e = .returned o ∧ l'.length = l.length + 1 ∧ rokB l' = false ∧ (∀ r ∈ l', r ∈ l ∨ dsm r) ∧ OwnR w' w.heap.size o l' ∧ (∃ p' : Int, p ≤ p' ∧ p' ≤ p + 60 ∧ Rd B w' g v n p') ∧ Bx g w w' := by
  have hg := h.blk.lt
  have hh := h.here
  have hs := h.size
  have HL : Hid (∀ W, Bx g w W → Rs W lv l) := hlx
  obtain ⟨al, capl, rfl, -, -, -, -⟩ := hl
  generalize hlv : Value.slice al l.length capl = lv at *
  clear hlv hlx
  go_enter Tryz.func78, Tryz.ntmps78
  go_wp2_with fail
  refine (l71Row_any h hp (by omega)).mono ?_
  rintro e w1 ⟨K, V, A, B1, D, rfl, hsm, ⟨p1, hp1, hp2, hr1⟩, hx1⟩
  have hz1 := hx1.size
  have hr2 := hr1.keepb (bAlloc (Below.refl _ _) (.cells #[.int .i64 K, .int .i64 V, .int .i64 A, .int .i64 B1, .int .i64 D] 41))
  have b2 : Bk (w1.alloc (.cells #[.int .i64 K, .int .i64 V, .int .i64 A, .int .i64 B1, .int .i64 D] 41)) w1.heap.size #[.int .i64 K, .int .i64 V, .int .i64 A, .int .i64 B1, .int .i64 D] 41 := Bk.new _ _ rfl
  have x2 := hx1.alloc (.cells #[.int .i64 K, .int .i64 V, .int .i64 A, .int .i64 B1, .int .i64 D] 41)
  go_upto_region 2 with fail
  generalize (w1.alloc (.cells #[.int .i64 K, .int .i64 V, .int .i64 A, .int .i64 B1, .int .i64 D] 41)) = w2 at *
  clear hx1 hr1
  go_wp2_with fail
  refine (pick_any hr2 (by omega) (by omega) _ (by omega) (by omega)).mono ?_
  rintro e w3 ⟨k, rfl, hk0, hk1, hr3, hx3⟩
  have b3 := b2.keepx hx3 (by omega)
  have x3 := x2.trans hx3
  have lb3 := b3.lt
  clear hr2 b2 x2 hx3
  by_cases h0 : k = 0
  · subst h0
    have hr4 := hr3.keepb (bAlloc (Below.refl _ _) (.cells #[.int .i64 (-1), .int .i64 4] 3))
    have t4 : Bk (w3.alloc (.cells #[.int .i64 (-1), .int .i64 4] 3)) w3.heap.size #[.int .i64 (-1), .int .i64 4] 3 := Bk.new _ _ rfl
    have b4 := b3.alloc (.cells #[.int .i64 (-1), .int .i64 4] 3)
    have x4 := x3.alloc (.cells #[.int .i64 (-1), .int .i64 4] 3)
    go_wp2_with fail
    refine (pick_any hr4 (by omega) (by omega) _ (by omega) (by omega)).mono ?_
    rintro e w5 ⟨j, rfl, hj0, hj1, hr5, hx5⟩
    have b5 := b4.keepx hx5 (by omega)
    have t5 := t4.keepx hx5 (by omega)
    have x5 := x4.trans hx5
    obtain ⟨l0, l1, _, _⟩ := t5.two
    obtain ⟨q0, q1, q2, q3, q4⟩ := b5.five
    have f5 := b5.free 0
    clear hr3 b3 x3 hr4 t4 b4 x4 hx5
    rcases (show j = 0 ∨ j = 1 by omega) with rfl | rfl
    · have b6 := b5.set 0 (.int .i64 (-1))
      have hr6 := hr5.apart (q := ⟨w1.heap.size, 0, none⟩) (by simp; omega) (by simp; omega) (.int .i64 (-1))
      have x6 := x5.setNew (p := ⟨w1.heap.size, 0, none⟩) (by simp; omega) (.int .i64 (-1))
      go_upto_region 12 with fail
      generalize (w5.setCell ⟨w1.heap.size, 0, none⟩ (.int .i64 (-1))) = w6 at *
      have b6' : Bk w6 w1.heap.size #[.int .i64 (-1), .int .i64 V, .int .i64 A, .int .i64 B1, .int .i64 D] 41 := b6
      clear l0 l1 q0 q1 q2 q3 q4 f5 b5 t5 hr5 x5 b6
      obtain ⟨q0, q1, q2, q3, q4⟩ := b6'.five
      have RW : Hid (Rs w6 lv l) := HL.out _ x6
      have HX : Hid (∀ W, Below w6.heap.size w6 W → W.cell? ⟨w1.heap.size, 0, none⟩ = some (.int .i64 (-1)) ∧ W.cell? ⟨w1.heap.size, 1, none⟩ = some (.int .i64 V) ∧ W.cell? ⟨w1.heap.size, 2, none⟩ = some (.int .i64 A) ∧ W.cell? ⟨w1.heap.size, 3, none⟩ = some (.int .i64 B1) ∧ W.cell? ⟨w1.heap.size, 4, none⟩ = some (.int .i64 D)) :=
        fun W hW => (b6'.keep hW).five
      have xs := x6.size
      clear q0 q1 q2 q3 q4
      go_upto_region 12 with fail
      go_region_held3 (fun W => W.cell? ⟨w1.heap.size, 0, none⟩ = some (.int .i64 (-1)) ∧ W.cell? ⟨w1.heap.size, 1, none⟩ = some (.int .i64 V) ∧ W.cell? ⟨w1.heap.size, 2, none⟩ = some (.int .i64 A) ∧ W.cell? ⟨w1.heap.size, 3, none⟩ = some (.int .i64 B1) ∧ W.cell? ⟨w1.heap.size, 4, none⟩ = some (.int .i64 D))
        (exact HX.out _ (by (repeat' (first | with_reducible exact Below.refl _ _ | with_reducible assumption | with_reducible refine bAlloc ?_ _ | with_reducible refine Below.drew ?_))))
        (first
          | (refine stepRs _ (by rfl) _ _ (by rfl) w6.heap.size (.slice (some ⟨_, 0, none⟩) 0 0) [] (by rfl) (by (repeat' (first | with_reducible assumption | with_reducible exact own_less (ownR_empty _ rfl) (by (simp <;> omega)) | with_reducible exact own_less (ownR_empty _ (by simp)) (by (simp <;> omega)) | with_reducible refine ownR_al ?_ | with_reducible refine ownR_dr ?_))) _ l (by rfl) (RW.out.keep (by (repeat' (first | with_reducible exact Below.refl _ _ | with_reducible assumption | with_reducible refine bAlloc ?_ _ | with_reducible refine Below.drew ?_)))) (by simp; omega) (by (simp <;> omega)) ?_; intro v4 w4 own4 hg4; have hb4 : Below w6.heap.size w6 w4 := Below.grew (by (repeat' (first | with_reducible exact Below.refl _ _ | with_reducible assumption | with_reducible refine bAlloc ?_ _ | with_reducible refine Below.drew ?_))) hg4 (by (simp <;> omega)) (fun k e => by simp [Value.ownBlock] at e; omega); have own4' : OwnR w4 w6.heap.size v4 l := own4)
          | (refine stepR _ (by rfl) _ _ (by rfl) w6.heap.size v4 l (by rfl) (by (repeat' (first | with_reducible assumption | with_reducible exact own_less (ownR_empty _ rfl) (by (simp <;> omega)) | with_reducible exact own_less (ownR_empty _ (by simp)) (by (simp <;> omega)) | with_reducible refine ownR_al ?_ | with_reducible refine ownR_dr ?_))) _ (-1) V A B1 D (by rfl) (by (repeat' (first | with_reducible exact Bk.new _ _ rfl | with_reducible exact Bk.new _ _ (by (simp <;> omega)) | with_reducible refine Bk.drew ?_ | with_reducible refine Bk.alloc ?_ _ | with_reducible refine Bk.grew ?_ (by assumption) (fun k e => by simp [Value.ownBlock] at e; omega)))) (by omega) (by have := hb4.size; (simp <;> omega)) ?_; intro g9 cap9 w9 own9 hg9 hl9; have hb9 : Below w6.heap.size w6 w9 := Below.grew (by (repeat' (first | with_reducible exact Below.refl _ _ | with_reducible assumption | with_reducible refine bAlloc ?_ _ | with_reducible refine Below.drew ?_))) hg9 (by have := hb4.size; (simp <;> omega)) (ownK_base own4)))
      all_goals go_wp2_with fail
      all_goals go_ret
      all_goals exact ⟨_, l ++ [((((-1), V), (A, B1)), D)], rfl, by simp, rok_no (r := ((((-1), V), (A, B1)), D)) (by simp) (bad_key (by omega)), (fun r hr => (List.mem_append.1 hr).imp id (fun e => by rw [List.mem_singleton.1 e]; exact fun _ => hsm.2)), own_less own9 (by omega), ⟨(p1 + 1 + 1), by omega, by omega, hr6.keepb hb9⟩, x6.trans (Bx.of_below hb9)⟩
    · have b6 := b5.set 0 (.int .i64 (4))
      have hr6 := hr5.apart (q := ⟨w1.heap.size, 0, none⟩) (by simp; omega) (by simp; omega) (.int .i64 (4))
      have x6 := x5.setNew (p := ⟨w1.heap.size, 0, none⟩) (by simp; omega) (.int .i64 (4))
      go_upto_region 12 with fail
      generalize (w5.setCell ⟨w1.heap.size, 0, none⟩ (.int .i64 (4))) = w6 at *
      have b6' : Bk w6 w1.heap.size #[.int .i64 (4), .int .i64 V, .int .i64 A, .int .i64 B1, .int .i64 D] 41 := b6
      clear l0 l1 q0 q1 q2 q3 q4 f5 b5 t5 hr5 x5 b6
      obtain ⟨q0, q1, q2, q3, q4⟩ := b6'.five
      have RW : Hid (Rs w6 lv l) := HL.out _ x6
      have HX : Hid (∀ W, Below w6.heap.size w6 W → W.cell? ⟨w1.heap.size, 0, none⟩ = some (.int .i64 (4)) ∧ W.cell? ⟨w1.heap.size, 1, none⟩ = some (.int .i64 V) ∧ W.cell? ⟨w1.heap.size, 2, none⟩ = some (.int .i64 A) ∧ W.cell? ⟨w1.heap.size, 3, none⟩ = some (.int .i64 B1) ∧ W.cell? ⟨w1.heap.size, 4, none⟩ = some (.int .i64 D)) :=
        fun W hW => (b6'.keep hW).five
      have xs := x6.size
      clear q0 q1 q2 q3 q4
      go_upto_region 12 with fail
      go_region_held3 (fun W => W.cell? ⟨w1.heap.size, 0, none⟩ = some (.int .i64 (4)) ∧ W.cell? ⟨w1.heap.size, 1, none⟩ = some (.int .i64 V) ∧ W.cell? ⟨w1.heap.size, 2, none⟩ = some (.int .i64 A) ∧ W.cell? ⟨w1.heap.size, 3, none⟩ = some (.int .i64 B1) ∧ W.cell? ⟨w1.heap.size, 4, none⟩ = some (.int .i64 D))
        (exact HX.out _ (by (repeat' (first | with_reducible exact Below.refl _ _ | with_reducible assumption | with_reducible refine bAlloc ?_ _ | with_reducible refine Below.drew ?_))))
        (first
          | (refine stepRs _ (by rfl) _ _ (by rfl) w6.heap.size (.slice (some ⟨_, 0, none⟩) 0 0) [] (by rfl) (by (repeat' (first | with_reducible assumption | with_reducible exact own_less (ownR_empty _ rfl) (by (simp <;> omega)) | with_reducible exact own_less (ownR_empty _ (by simp)) (by (simp <;> omega)) | with_reducible refine ownR_al ?_ | with_reducible refine ownR_dr ?_))) _ l (by rfl) (RW.out.keep (by (repeat' (first | with_reducible exact Below.refl _ _ | with_reducible assumption | with_reducible refine bAlloc ?_ _ | with_reducible refine Below.drew ?_)))) (by simp; omega) (by (simp <;> omega)) ?_; intro v4 w4 own4 hg4; have hb4 : Below w6.heap.size w6 w4 := Below.grew (by (repeat' (first | with_reducible exact Below.refl _ _ | with_reducible assumption | with_reducible refine bAlloc ?_ _ | with_reducible refine Below.drew ?_))) hg4 (by (simp <;> omega)) (fun k e => by simp [Value.ownBlock] at e; omega); have own4' : OwnR w4 w6.heap.size v4 l := own4)
          | (refine stepR _ (by rfl) _ _ (by rfl) w6.heap.size v4 l (by rfl) (by (repeat' (first | with_reducible assumption | with_reducible exact own_less (ownR_empty _ rfl) (by (simp <;> omega)) | with_reducible exact own_less (ownR_empty _ (by simp)) (by (simp <;> omega)) | with_reducible refine ownR_al ?_ | with_reducible refine ownR_dr ?_))) _ (4) V A B1 D (by rfl) (by (repeat' (first | with_reducible exact Bk.new _ _ rfl | with_reducible exact Bk.new _ _ (by (simp <;> omega)) | with_reducible refine Bk.drew ?_ | with_reducible refine Bk.alloc ?_ _ | with_reducible refine Bk.grew ?_ (by assumption) (fun k e => by simp [Value.ownBlock] at e; omega)))) (by omega) (by have := hb4.size; (simp <;> omega)) ?_; intro g9 cap9 w9 own9 hg9 hl9; have hb9 : Below w6.heap.size w6 w9 := Below.grew (by (repeat' (first | with_reducible exact Below.refl _ _ | with_reducible assumption | with_reducible refine bAlloc ?_ _ | with_reducible refine Below.drew ?_))) hg9 (by have := hb4.size; (simp <;> omega)) (ownK_base own4)))
      all_goals go_wp2_with fail
      all_goals go_ret
      all_goals exact ⟨_, l ++ [((((4), V), (A, B1)), D)], rfl, by simp, rok_no (r := ((((4), V), (A, B1)), D)) (by simp) (bad_key (by omega)), (fun r hr => (List.mem_append.1 hr).imp id (fun e => by rw [List.mem_singleton.1 e]; exact fun _ => hsm.2)), own_less own9 (by omega), ⟨(p1 + 1 + 1), by omega, by omega, hr6.keepb hb9⟩, x6.trans (Bx.of_below hb9)⟩
  have e0 : (k == 0) = false := by simpa using h0
  by_cases h1 : k = 1
  · subst h1
    have hr4 := hr3.keepb (bAlloc (Below.refl _ _) (.cells #[.int .i64 (-1), .int .i64 100] 3))
    have t4 : Bk (w3.alloc (.cells #[.int .i64 (-1), .int .i64 100] 3)) w3.heap.size #[.int .i64 (-1), .int .i64 100] 3 := Bk.new _ _ rfl
    have b4 := b3.alloc (.cells #[.int .i64 (-1), .int .i64 100] 3)
    have x4 := x3.alloc (.cells #[.int .i64 (-1), .int .i64 100] 3)
    go_wp2_with fail
    refine (pick_any hr4 (by omega) (by omega) _ (by omega) (by omega)).mono ?_
    rintro e w5 ⟨j, rfl, hj0, hj1, hr5, hx5⟩
    have b5 := b4.keepx hx5 (by omega)
    have t5 := t4.keepx hx5 (by omega)
    have x5 := x4.trans hx5
    obtain ⟨l0, l1, _, _⟩ := t5.two
    obtain ⟨q0, q1, q2, q3, q4⟩ := b5.five
    have f5 := b5.free 1
    clear hr3 b3 x3 hr4 t4 b4 x4 hx5
    rcases (show j = 0 ∨ j = 1 by omega) with rfl | rfl
    · have b6 := b5.set 1 (.int .i64 (-1))
      have hr6 := hr5.apart (q := ⟨w1.heap.size, 1, none⟩) (by simp; omega) (by simp; omega) (.int .i64 (-1))
      have x6 := x5.setNew (p := ⟨w1.heap.size, 1, none⟩) (by simp; omega) (.int .i64 (-1))
      go_upto_region 12 with fail
      generalize (w5.setCell ⟨w1.heap.size, 1, none⟩ (.int .i64 (-1))) = w6 at *
      have b6' : Bk w6 w1.heap.size #[.int .i64 K, .int .i64 (-1), .int .i64 A, .int .i64 B1, .int .i64 D] 41 := b6
      clear l0 l1 q0 q1 q2 q3 q4 f5 b5 t5 hr5 x5 b6
      obtain ⟨q0, q1, q2, q3, q4⟩ := b6'.five
      have RW : Hid (Rs w6 lv l) := HL.out _ x6
      have HX : Hid (∀ W, Below w6.heap.size w6 W → W.cell? ⟨w1.heap.size, 0, none⟩ = some (.int .i64 K) ∧ W.cell? ⟨w1.heap.size, 1, none⟩ = some (.int .i64 (-1)) ∧ W.cell? ⟨w1.heap.size, 2, none⟩ = some (.int .i64 A) ∧ W.cell? ⟨w1.heap.size, 3, none⟩ = some (.int .i64 B1) ∧ W.cell? ⟨w1.heap.size, 4, none⟩ = some (.int .i64 D)) :=
        fun W hW => (b6'.keep hW).five
      have xs := x6.size
      clear q0 q1 q2 q3 q4
      go_upto_region 12 with fail
      go_region_held3 (fun W => W.cell? ⟨w1.heap.size, 0, none⟩ = some (.int .i64 K) ∧ W.cell? ⟨w1.heap.size, 1, none⟩ = some (.int .i64 (-1)) ∧ W.cell? ⟨w1.heap.size, 2, none⟩ = some (.int .i64 A) ∧ W.cell? ⟨w1.heap.size, 3, none⟩ = some (.int .i64 B1) ∧ W.cell? ⟨w1.heap.size, 4, none⟩ = some (.int .i64 D))
        (exact HX.out _ (by (repeat' (first | with_reducible exact Below.refl _ _ | with_reducible assumption | with_reducible refine bAlloc ?_ _ | with_reducible refine Below.drew ?_))))
        (first
          | (refine stepRs _ (by rfl) _ _ (by rfl) w6.heap.size (.slice (some ⟨_, 0, none⟩) 0 0) [] (by rfl) (by (repeat' (first | with_reducible assumption | with_reducible exact own_less (ownR_empty _ rfl) (by (simp <;> omega)) | with_reducible exact own_less (ownR_empty _ (by simp)) (by (simp <;> omega)) | with_reducible refine ownR_al ?_ | with_reducible refine ownR_dr ?_))) _ l (by rfl) (RW.out.keep (by (repeat' (first | with_reducible exact Below.refl _ _ | with_reducible assumption | with_reducible refine bAlloc ?_ _ | with_reducible refine Below.drew ?_)))) (by simp; omega) (by (simp <;> omega)) ?_; intro v4 w4 own4 hg4; have hb4 : Below w6.heap.size w6 w4 := Below.grew (by (repeat' (first | with_reducible exact Below.refl _ _ | with_reducible assumption | with_reducible refine bAlloc ?_ _ | with_reducible refine Below.drew ?_))) hg4 (by (simp <;> omega)) (fun k e => by simp [Value.ownBlock] at e; omega); have own4' : OwnR w4 w6.heap.size v4 l := own4)
          | (refine stepR _ (by rfl) _ _ (by rfl) w6.heap.size v4 l (by rfl) (by (repeat' (first | with_reducible assumption | with_reducible exact own_less (ownR_empty _ rfl) (by (simp <;> omega)) | with_reducible exact own_less (ownR_empty _ (by simp)) (by (simp <;> omega)) | with_reducible refine ownR_al ?_ | with_reducible refine ownR_dr ?_))) _ K (-1) A B1 D (by rfl) (by (repeat' (first | with_reducible exact Bk.new _ _ rfl | with_reducible exact Bk.new _ _ (by (simp <;> omega)) | with_reducible refine Bk.drew ?_ | with_reducible refine Bk.alloc ?_ _ | with_reducible refine Bk.grew ?_ (by assumption) (fun k e => by simp [Value.ownBlock] at e; omega)))) (by omega) (by have := hb4.size; (simp <;> omega)) ?_; intro g9 cap9 w9 own9 hg9 hl9; have hb9 : Below w6.heap.size w6 w9 := Below.grew (by (repeat' (first | with_reducible exact Below.refl _ _ | with_reducible assumption | with_reducible refine bAlloc ?_ _ | with_reducible refine Below.drew ?_))) hg9 (by have := hb4.size; (simp <;> omega)) (ownK_base own4)))
      all_goals go_wp2_with fail
      all_goals go_ret
      all_goals exact ⟨_, l ++ [(((K, (-1)), (A, B1)), D)], rfl, by simp, rok_no (r := (((K, (-1)), (A, B1)), D)) (by simp) (bad_val (by omega)), (fun r hr => (List.mem_append.1 hr).imp id (fun e => by rw [List.mem_singleton.1 e]; exact fun _ => hsm.2)), own_less own9 (by omega), ⟨(p1 + 1 + 1), by omega, by omega, hr6.keepb hb9⟩, x6.trans (Bx.of_below hb9)⟩
    · have b6 := b5.set 1 (.int .i64 (100))
      have hr6 := hr5.apart (q := ⟨w1.heap.size, 1, none⟩) (by simp; omega) (by simp; omega) (.int .i64 (100))
      have x6 := x5.setNew (p := ⟨w1.heap.size, 1, none⟩) (by simp; omega) (.int .i64 (100))
      go_upto_region 12 with fail
      generalize (w5.setCell ⟨w1.heap.size, 1, none⟩ (.int .i64 (100))) = w6 at *
      have b6' : Bk w6 w1.heap.size #[.int .i64 K, .int .i64 (100), .int .i64 A, .int .i64 B1, .int .i64 D] 41 := b6
      clear l0 l1 q0 q1 q2 q3 q4 f5 b5 t5 hr5 x5 b6
      obtain ⟨q0, q1, q2, q3, q4⟩ := b6'.five
      have RW : Hid (Rs w6 lv l) := HL.out _ x6
      have HX : Hid (∀ W, Below w6.heap.size w6 W → W.cell? ⟨w1.heap.size, 0, none⟩ = some (.int .i64 K) ∧ W.cell? ⟨w1.heap.size, 1, none⟩ = some (.int .i64 (100)) ∧ W.cell? ⟨w1.heap.size, 2, none⟩ = some (.int .i64 A) ∧ W.cell? ⟨w1.heap.size, 3, none⟩ = some (.int .i64 B1) ∧ W.cell? ⟨w1.heap.size, 4, none⟩ = some (.int .i64 D)) :=
        fun W hW => (b6'.keep hW).five
      have xs := x6.size
      clear q0 q1 q2 q3 q4
      go_upto_region 12 with fail
      go_region_held3 (fun W => W.cell? ⟨w1.heap.size, 0, none⟩ = some (.int .i64 K) ∧ W.cell? ⟨w1.heap.size, 1, none⟩ = some (.int .i64 (100)) ∧ W.cell? ⟨w1.heap.size, 2, none⟩ = some (.int .i64 A) ∧ W.cell? ⟨w1.heap.size, 3, none⟩ = some (.int .i64 B1) ∧ W.cell? ⟨w1.heap.size, 4, none⟩ = some (.int .i64 D))
        (exact HX.out _ (by (repeat' (first | with_reducible exact Below.refl _ _ | with_reducible assumption | with_reducible refine bAlloc ?_ _ | with_reducible refine Below.drew ?_))))
        (first
          | (refine stepRs _ (by rfl) _ _ (by rfl) w6.heap.size (.slice (some ⟨_, 0, none⟩) 0 0) [] (by rfl) (by (repeat' (first | with_reducible assumption | with_reducible exact own_less (ownR_empty _ rfl) (by (simp <;> omega)) | with_reducible exact own_less (ownR_empty _ (by simp)) (by (simp <;> omega)) | with_reducible refine ownR_al ?_ | with_reducible refine ownR_dr ?_))) _ l (by rfl) (RW.out.keep (by (repeat' (first | with_reducible exact Below.refl _ _ | with_reducible assumption | with_reducible refine bAlloc ?_ _ | with_reducible refine Below.drew ?_)))) (by simp; omega) (by (simp <;> omega)) ?_; intro v4 w4 own4 hg4; have hb4 : Below w6.heap.size w6 w4 := Below.grew (by (repeat' (first | with_reducible exact Below.refl _ _ | with_reducible assumption | with_reducible refine bAlloc ?_ _ | with_reducible refine Below.drew ?_))) hg4 (by (simp <;> omega)) (fun k e => by simp [Value.ownBlock] at e; omega); have own4' : OwnR w4 w6.heap.size v4 l := own4)
          | (refine stepR _ (by rfl) _ _ (by rfl) w6.heap.size v4 l (by rfl) (by (repeat' (first | with_reducible assumption | with_reducible exact own_less (ownR_empty _ rfl) (by (simp <;> omega)) | with_reducible exact own_less (ownR_empty _ (by simp)) (by (simp <;> omega)) | with_reducible refine ownR_al ?_ | with_reducible refine ownR_dr ?_))) _ K (100) A B1 D (by rfl) (by (repeat' (first | with_reducible exact Bk.new _ _ rfl | with_reducible exact Bk.new _ _ (by (simp <;> omega)) | with_reducible refine Bk.drew ?_ | with_reducible refine Bk.alloc ?_ _ | with_reducible refine Bk.grew ?_ (by assumption) (fun k e => by simp [Value.ownBlock] at e; omega)))) (by omega) (by have := hb4.size; (simp <;> omega)) ?_; intro g9 cap9 w9 own9 hg9 hl9; have hb9 : Below w6.heap.size w6 w9 := Below.grew (by (repeat' (first | with_reducible exact Below.refl _ _ | with_reducible assumption | with_reducible refine bAlloc ?_ _ | with_reducible refine Below.drew ?_))) hg9 (by have := hb4.size; (simp <;> omega)) (ownK_base own4)))
      all_goals go_wp2_with fail
      all_goals go_ret
      all_goals exact ⟨_, l ++ [(((K, (100)), (A, B1)), D)], rfl, by simp, rok_no (r := (((K, (100)), (A, B1)), D)) (by simp) (bad_val (by omega)), (fun r hr => (List.mem_append.1 hr).imp id (fun e => by rw [List.mem_singleton.1 e]; exact fun _ => hsm.2)), own_less own9 (by omega), ⟨(p1 + 1 + 1), by omega, by omega, hr6.keepb hb9⟩, x6.trans (Bx.of_below hb9)⟩
  have e1 : (k == 1) = false := by simpa using h1
  by_cases h2 : k = 2
  · subst h2
    obtain ⟨q0, q1, q2, q3, q4⟩ := b3.five
    have f00 := b3.free 2
    have b60 := b3.set 2 (.int .i64 (-1))
    have hr60 := hr3.apart (q := ⟨w1.heap.size, 2, none⟩) (by simp; omega) (by simp; omega) (.int .i64 (-1))
    have x60 := x3.setNew (p := ⟨w1.heap.size, 2, none⟩) (by simp; omega) (.int .i64 (-1))
    have z60 := (Bk.five b60)
    obtain ⟨z0, z1, z2, z3, z4⟩ := z60
    have f11 := b60.free 3
    have b61 := b60.set 3 (.int .i64 (0))
    have hr61 := hr60.apart (q := ⟨w1.heap.size, 3, none⟩) (by simp; omega) (by simp; omega) (.int .i64 (0))
    have x61 := x60.setNew (p := ⟨w1.heap.size, 3, none⟩) (by simp; omega) (.int .i64 (0))
    go_upto_region 12 with fail
    generalize ((w3.setCell ⟨w1.heap.size, 2, none⟩ (.int .i64 (-1))).setCell ⟨w1.heap.size, 3, none⟩ (.int .i64 (0))) = w6 at *
    have b6' : Bk w6 w1.heap.size #[.int .i64 K, .int .i64 V, .int .i64 (-1), .int .i64 0, .int .i64 D] 41 := b61
    clear q0 q1 q2 q3 q4
    obtain ⟨q0, q1, q2, q3, q4⟩ := b6'.five
    have RW : Hid (Rs w6 lv l) := HL.out _ x61
    have HX : Hid (∀ W, Below w6.heap.size w6 W → W.cell? ⟨w1.heap.size, 0, none⟩ = some (.int .i64 K) ∧ W.cell? ⟨w1.heap.size, 1, none⟩ = some (.int .i64 V) ∧ W.cell? ⟨w1.heap.size, 2, none⟩ = some (.int .i64 (-1)) ∧ W.cell? ⟨w1.heap.size, 3, none⟩ = some (.int .i64 0) ∧ W.cell? ⟨w1.heap.size, 4, none⟩ = some (.int .i64 D)) :=
      fun W hW => (b6'.keep hW).five
    have xs := x61.size
    clear q0 q1 q2 q3 q4
    go_upto_region 12 with fail
    go_region_held3 (fun W => W.cell? ⟨w1.heap.size, 0, none⟩ = some (.int .i64 K) ∧ W.cell? ⟨w1.heap.size, 1, none⟩ = some (.int .i64 V) ∧ W.cell? ⟨w1.heap.size, 2, none⟩ = some (.int .i64 (-1)) ∧ W.cell? ⟨w1.heap.size, 3, none⟩ = some (.int .i64 0) ∧ W.cell? ⟨w1.heap.size, 4, none⟩ = some (.int .i64 D))
      (exact HX.out _ (by (repeat' (first | with_reducible exact Below.refl _ _ | with_reducible assumption | with_reducible refine bAlloc ?_ _ | with_reducible refine Below.drew ?_))))
      (first
        | (refine stepRs _ (by rfl) _ _ (by rfl) w6.heap.size (.slice (some ⟨_, 0, none⟩) 0 0) [] (by rfl) (by (repeat' (first | with_reducible assumption | with_reducible exact own_less (ownR_empty _ rfl) (by (simp <;> omega)) | with_reducible exact own_less (ownR_empty _ (by simp)) (by (simp <;> omega)) | with_reducible refine ownR_al ?_ | with_reducible refine ownR_dr ?_))) _ l (by rfl) (RW.out.keep (by (repeat' (first | with_reducible exact Below.refl _ _ | with_reducible assumption | with_reducible refine bAlloc ?_ _ | with_reducible refine Below.drew ?_)))) (by simp; omega) (by (simp <;> omega)) ?_; intro v4 w4 own4 hg4; have hb4 : Below w6.heap.size w6 w4 := Below.grew (by (repeat' (first | with_reducible exact Below.refl _ _ | with_reducible assumption | with_reducible refine bAlloc ?_ _ | with_reducible refine Below.drew ?_))) hg4 (by (simp <;> omega)) (fun k e => by simp [Value.ownBlock] at e; omega); have own4' : OwnR w4 w6.heap.size v4 l := own4)
        | (refine stepR _ (by rfl) _ _ (by rfl) w6.heap.size v4 l (by rfl) (by (repeat' (first | with_reducible assumption | with_reducible exact own_less (ownR_empty _ rfl) (by (simp <;> omega)) | with_reducible exact own_less (ownR_empty _ (by simp)) (by (simp <;> omega)) | with_reducible refine ownR_al ?_ | with_reducible refine ownR_dr ?_))) _ K V (-1) 0 D (by rfl) (by (repeat' (first | with_reducible exact Bk.new _ _ rfl | with_reducible exact Bk.new _ _ (by (simp <;> omega)) | with_reducible refine Bk.drew ?_ | with_reducible refine Bk.alloc ?_ _ | with_reducible refine Bk.grew ?_ (by assumption) (fun k e => by simp [Value.ownBlock] at e; omega)))) (by omega) (by have := hb4.size; (simp <;> omega)) ?_; intro g9 cap9 w9 own9 hg9 hl9; have hb9 : Below w6.heap.size w6 w9 := Below.grew (by (repeat' (first | with_reducible exact Below.refl _ _ | with_reducible assumption | with_reducible refine bAlloc ?_ _ | with_reducible refine Below.drew ?_))) hg9 (by have := hb4.size; (simp <;> omega)) (ownK_base own4)))
    all_goals go_wp2_with fail
    all_goals go_ret
    all_goals exact ⟨_, l ++ [(((K, V), ((-1), 0)), D)], rfl, by simp, rok_no (r := (((K, V), ((-1), 0)), D)) (by simp) (bad_time (by omega)), (fun r hr => (List.mem_append.1 hr).imp id (fun e => by rw [List.mem_singleton.1 e]; exact fun _ => hsm.2)), own_less own9 (by omega), ⟨(p1 + 1), by omega, by omega, hr61.keepb hb9⟩, x61.trans (Bx.of_below hb9)⟩
  have e2 : (k == 2) = false := by simpa using h2
  by_cases h3 : k = 3
  · subst h3
    have hr4 := hr3.keepb (bAlloc (Below.refl _ _) (.cells #[.int .i64 (-100000), .int .i64 100000] 3))
    have t4 : Bk (w3.alloc (.cells #[.int .i64 (-100000), .int .i64 100000] 3)) w3.heap.size #[.int .i64 (-100000), .int .i64 100000] 3 := Bk.new _ _ rfl
    have b4 := b3.alloc (.cells #[.int .i64 (-100000), .int .i64 100000] 3)
    have x4 := x3.alloc (.cells #[.int .i64 (-100000), .int .i64 100000] 3)
    go_wp2_with fail
    refine (pick_any hr4 (by omega) (by omega) _ (by omega) (by omega)).mono ?_
    rintro e w5 ⟨j, rfl, hj0, hj1, hr5, hx5⟩
    have b5 := b4.keepx hx5 (by omega)
    have t5 := t4.keepx hx5 (by omega)
    have x5 := x4.trans hx5
    obtain ⟨l0, l1, _, _⟩ := t5.two
    obtain ⟨q0, q1, q2, q3, q4⟩ := b5.five
    have f5 := b5.free 4
    clear hr3 b3 x3 hr4 t4 b4 x4 hx5
    rcases (show j = 0 ∨ j = 1 by omega) with rfl | rfl
    · have b6 := b5.set 4 (.int .i64 (-100000))
      have hr6 := hr5.apart (q := ⟨w1.heap.size, 4, none⟩) (by simp; omega) (by simp; omega) (.int .i64 (-100000))
      have x6 := x5.setNew (p := ⟨w1.heap.size, 4, none⟩) (by simp; omega) (.int .i64 (-100000))
      go_upto_region 12 with fail
      generalize (w5.setCell ⟨w1.heap.size, 4, none⟩ (.int .i64 (-100000))) = w6 at *
      have b6' : Bk w6 w1.heap.size #[.int .i64 K, .int .i64 V, .int .i64 A, .int .i64 B1, .int .i64 (-100000)] 41 := b6
      clear l0 l1 q0 q1 q2 q3 q4 f5 b5 t5 hr5 x5 b6
      obtain ⟨q0, q1, q2, q3, q4⟩ := b6'.five
      have RW : Hid (Rs w6 lv l) := HL.out _ x6
      have HX : Hid (∀ W, Below w6.heap.size w6 W → W.cell? ⟨w1.heap.size, 0, none⟩ = some (.int .i64 K) ∧ W.cell? ⟨w1.heap.size, 1, none⟩ = some (.int .i64 V) ∧ W.cell? ⟨w1.heap.size, 2, none⟩ = some (.int .i64 A) ∧ W.cell? ⟨w1.heap.size, 3, none⟩ = some (.int .i64 B1) ∧ W.cell? ⟨w1.heap.size, 4, none⟩ = some (.int .i64 (-100000))) :=
        fun W hW => (b6'.keep hW).five
      have xs := x6.size
      clear q0 q1 q2 q3 q4
      go_upto_region 12 with fail
      go_region_held3 (fun W => W.cell? ⟨w1.heap.size, 0, none⟩ = some (.int .i64 K) ∧ W.cell? ⟨w1.heap.size, 1, none⟩ = some (.int .i64 V) ∧ W.cell? ⟨w1.heap.size, 2, none⟩ = some (.int .i64 A) ∧ W.cell? ⟨w1.heap.size, 3, none⟩ = some (.int .i64 B1) ∧ W.cell? ⟨w1.heap.size, 4, none⟩ = some (.int .i64 (-100000)))
        (exact HX.out _ (by (repeat' (first | with_reducible exact Below.refl _ _ | with_reducible assumption | with_reducible refine bAlloc ?_ _ | with_reducible refine Below.drew ?_))))
        (first
          | (refine stepRs _ (by rfl) _ _ (by rfl) w6.heap.size (.slice (some ⟨_, 0, none⟩) 0 0) [] (by rfl) (by (repeat' (first | with_reducible assumption | with_reducible exact own_less (ownR_empty _ rfl) (by (simp <;> omega)) | with_reducible exact own_less (ownR_empty _ (by simp)) (by (simp <;> omega)) | with_reducible refine ownR_al ?_ | with_reducible refine ownR_dr ?_))) _ l (by rfl) (RW.out.keep (by (repeat' (first | with_reducible exact Below.refl _ _ | with_reducible assumption | with_reducible refine bAlloc ?_ _ | with_reducible refine Below.drew ?_)))) (by simp; omega) (by (simp <;> omega)) ?_; intro v4 w4 own4 hg4; have hb4 : Below w6.heap.size w6 w4 := Below.grew (by (repeat' (first | with_reducible exact Below.refl _ _ | with_reducible assumption | with_reducible refine bAlloc ?_ _ | with_reducible refine Below.drew ?_))) hg4 (by (simp <;> omega)) (fun k e => by simp [Value.ownBlock] at e; omega); have own4' : OwnR w4 w6.heap.size v4 l := own4)
          | (refine stepR _ (by rfl) _ _ (by rfl) w6.heap.size v4 l (by rfl) (by (repeat' (first | with_reducible assumption | with_reducible exact own_less (ownR_empty _ rfl) (by (simp <;> omega)) | with_reducible exact own_less (ownR_empty _ (by simp)) (by (simp <;> omega)) | with_reducible refine ownR_al ?_ | with_reducible refine ownR_dr ?_))) _ K V A B1 (-100000) (by rfl) (by (repeat' (first | with_reducible exact Bk.new _ _ rfl | with_reducible exact Bk.new _ _ (by (simp <;> omega)) | with_reducible refine Bk.drew ?_ | with_reducible refine Bk.alloc ?_ _ | with_reducible refine Bk.grew ?_ (by assumption) (fun k e => by simp [Value.ownBlock] at e; omega)))) (by omega) (by have := hb4.size; (simp <;> omega)) ?_; intro g9 cap9 w9 own9 hg9 hl9; have hb9 : Below w6.heap.size w6 w9 := Below.grew (by (repeat' (first | with_reducible exact Below.refl _ _ | with_reducible assumption | with_reducible refine bAlloc ?_ _ | with_reducible refine Below.drew ?_))) hg9 (by have := hb4.size; (simp <;> omega)) (ownK_base own4)))
      all_goals go_wp2_with fail
      all_goals go_ret
      all_goals exact ⟨_, l ++ [(((K, V), (A, B1)), (-100000))], rfl, by simp, rok_no (r := (((K, V), (A, B1)), (-100000))) (by simp) (bad_diff (by omega)), (fun r hr => (List.mem_append.1 hr).imp id (fun e => by rw [List.mem_singleton.1 e]; exact fun h => by simp only at h; omega)), own_less own9 (by omega), ⟨(p1 + 1 + 1), by omega, by omega, hr6.keepb hb9⟩, x6.trans (Bx.of_below hb9)⟩
    · have b6 := b5.set 4 (.int .i64 (100000))
      have hr6 := hr5.apart (q := ⟨w1.heap.size, 4, none⟩) (by simp; omega) (by simp; omega) (.int .i64 (100000))
      have x6 := x5.setNew (p := ⟨w1.heap.size, 4, none⟩) (by simp; omega) (.int .i64 (100000))
      go_upto_region 12 with fail
      generalize (w5.setCell ⟨w1.heap.size, 4, none⟩ (.int .i64 (100000))) = w6 at *
      have b6' : Bk w6 w1.heap.size #[.int .i64 K, .int .i64 V, .int .i64 A, .int .i64 B1, .int .i64 (100000)] 41 := b6
      clear l0 l1 q0 q1 q2 q3 q4 f5 b5 t5 hr5 x5 b6
      obtain ⟨q0, q1, q2, q3, q4⟩ := b6'.five
      have RW : Hid (Rs w6 lv l) := HL.out _ x6
      have HX : Hid (∀ W, Below w6.heap.size w6 W → W.cell? ⟨w1.heap.size, 0, none⟩ = some (.int .i64 K) ∧ W.cell? ⟨w1.heap.size, 1, none⟩ = some (.int .i64 V) ∧ W.cell? ⟨w1.heap.size, 2, none⟩ = some (.int .i64 A) ∧ W.cell? ⟨w1.heap.size, 3, none⟩ = some (.int .i64 B1) ∧ W.cell? ⟨w1.heap.size, 4, none⟩ = some (.int .i64 (100000))) :=
        fun W hW => (b6'.keep hW).five
      have xs := x6.size
      clear q0 q1 q2 q3 q4
      go_upto_region 12 with fail
      go_region_held3 (fun W => W.cell? ⟨w1.heap.size, 0, none⟩ = some (.int .i64 K) ∧ W.cell? ⟨w1.heap.size, 1, none⟩ = some (.int .i64 V) ∧ W.cell? ⟨w1.heap.size, 2, none⟩ = some (.int .i64 A) ∧ W.cell? ⟨w1.heap.size, 3, none⟩ = some (.int .i64 B1) ∧ W.cell? ⟨w1.heap.size, 4, none⟩ = some (.int .i64 (100000)))
        (exact HX.out _ (by (repeat' (first | with_reducible exact Below.refl _ _ | with_reducible assumption | with_reducible refine bAlloc ?_ _ | with_reducible refine Below.drew ?_))))
        (first
          | (refine stepRs _ (by rfl) _ _ (by rfl) w6.heap.size (.slice (some ⟨_, 0, none⟩) 0 0) [] (by rfl) (by (repeat' (first | with_reducible assumption | with_reducible exact own_less (ownR_empty _ rfl) (by (simp <;> omega)) | with_reducible exact own_less (ownR_empty _ (by simp)) (by (simp <;> omega)) | with_reducible refine ownR_al ?_ | with_reducible refine ownR_dr ?_))) _ l (by rfl) (RW.out.keep (by (repeat' (first | with_reducible exact Below.refl _ _ | with_reducible assumption | with_reducible refine bAlloc ?_ _ | with_reducible refine Below.drew ?_)))) (by simp; omega) (by (simp <;> omega)) ?_; intro v4 w4 own4 hg4; have hb4 : Below w6.heap.size w6 w4 := Below.grew (by (repeat' (first | with_reducible exact Below.refl _ _ | with_reducible assumption | with_reducible refine bAlloc ?_ _ | with_reducible refine Below.drew ?_))) hg4 (by (simp <;> omega)) (fun k e => by simp [Value.ownBlock] at e; omega); have own4' : OwnR w4 w6.heap.size v4 l := own4)
          | (refine stepR _ (by rfl) _ _ (by rfl) w6.heap.size v4 l (by rfl) (by (repeat' (first | with_reducible assumption | with_reducible exact own_less (ownR_empty _ rfl) (by (simp <;> omega)) | with_reducible exact own_less (ownR_empty _ (by simp)) (by (simp <;> omega)) | with_reducible refine ownR_al ?_ | with_reducible refine ownR_dr ?_))) _ K V A B1 (100000) (by rfl) (by (repeat' (first | with_reducible exact Bk.new _ _ rfl | with_reducible exact Bk.new _ _ (by (simp <;> omega)) | with_reducible refine Bk.drew ?_ | with_reducible refine Bk.alloc ?_ _ | with_reducible refine Bk.grew ?_ (by assumption) (fun k e => by simp [Value.ownBlock] at e; omega)))) (by omega) (by have := hb4.size; (simp <;> omega)) ?_; intro g9 cap9 w9 own9 hg9 hl9; have hb9 : Below w6.heap.size w6 w9 := Below.grew (by (repeat' (first | with_reducible exact Below.refl _ _ | with_reducible assumption | with_reducible refine bAlloc ?_ _ | with_reducible refine Below.drew ?_))) hg9 (by have := hb4.size; (simp <;> omega)) (ownK_base own4)))
      all_goals go_wp2_with fail
      all_goals go_ret
      all_goals exact ⟨_, l ++ [(((K, V), (A, B1)), (100000))], rfl, by simp, rok_no (r := (((K, V), (A, B1)), (100000))) (by simp) (bad_diff (by omega)), (fun r hr => (List.mem_append.1 hr).imp id (fun e => by rw [List.mem_singleton.1 e]; exact fun h => by simp only at h; omega)), own_less own9 (by omega), ⟨(p1 + 1 + 1), by omega, by omega, hr6.keepb hb9⟩, x6.trans (Bx.of_below hb9)⟩
  have e3 : (k == 3) = false := by simpa using h3
  obtain ⟨q0, q1, q2, q3, q4⟩ := b3.five
  have f00 := b3.free 3
  have b60 := b3.set 3 (.int .i64 (8))
  have hr60 := hr3.apart (q := ⟨w1.heap.size, 3, none⟩) (by simp; omega) (by simp; omega) (.int .i64 (8))
  have x60 := x3.setNew (p := ⟨w1.heap.size, 3, none⟩) (by simp; omega) (.int .i64 (8))
  go_upto_region 12 with fail
  generalize (w3.setCell ⟨w1.heap.size, 3, none⟩ (.int .i64 (8))) = w6 at *
  have b6' : Bk w6 w1.heap.size #[.int .i64 K, .int .i64 V, .int .i64 A, .int .i64 8, .int .i64 D] 41 := b60
  clear q0 q1 q2 q3 q4
  obtain ⟨q0, q1, q2, q3, q4⟩ := b6'.five
  have RW : Hid (Rs w6 lv l) := HL.out _ x60
  have HX : Hid (∀ W, Below w6.heap.size w6 W → W.cell? ⟨w1.heap.size, 0, none⟩ = some (.int .i64 K) ∧ W.cell? ⟨w1.heap.size, 1, none⟩ = some (.int .i64 V) ∧ W.cell? ⟨w1.heap.size, 2, none⟩ = some (.int .i64 A) ∧ W.cell? ⟨w1.heap.size, 3, none⟩ = some (.int .i64 8) ∧ W.cell? ⟨w1.heap.size, 4, none⟩ = some (.int .i64 D)) :=
    fun W hW => (b6'.keep hW).five
  have xs := x60.size
  clear q0 q1 q2 q3 q4
  go_upto_region 12 with fail
  go_region_held3 (fun W => W.cell? ⟨w1.heap.size, 0, none⟩ = some (.int .i64 K) ∧ W.cell? ⟨w1.heap.size, 1, none⟩ = some (.int .i64 V) ∧ W.cell? ⟨w1.heap.size, 2, none⟩ = some (.int .i64 A) ∧ W.cell? ⟨w1.heap.size, 3, none⟩ = some (.int .i64 8) ∧ W.cell? ⟨w1.heap.size, 4, none⟩ = some (.int .i64 D))
    (exact HX.out _ (by (repeat' (first | with_reducible exact Below.refl _ _ | with_reducible assumption | with_reducible refine bAlloc ?_ _ | with_reducible refine Below.drew ?_))))
    (first
      | (refine stepRs _ (by rfl) _ _ (by rfl) w6.heap.size (.slice (some ⟨_, 0, none⟩) 0 0) [] (by rfl) (by (repeat' (first | with_reducible assumption | with_reducible exact own_less (ownR_empty _ rfl) (by (simp <;> omega)) | with_reducible exact own_less (ownR_empty _ (by simp)) (by (simp <;> omega)) | with_reducible refine ownR_al ?_ | with_reducible refine ownR_dr ?_))) _ l (by rfl) (RW.out.keep (by (repeat' (first | with_reducible exact Below.refl _ _ | with_reducible assumption | with_reducible refine bAlloc ?_ _ | with_reducible refine Below.drew ?_)))) (by simp; omega) (by (simp <;> omega)) ?_; intro v4 w4 own4 hg4; have hb4 : Below w6.heap.size w6 w4 := Below.grew (by (repeat' (first | with_reducible exact Below.refl _ _ | with_reducible assumption | with_reducible refine bAlloc ?_ _ | with_reducible refine Below.drew ?_))) hg4 (by (simp <;> omega)) (fun k e => by simp [Value.ownBlock] at e; omega); have own4' : OwnR w4 w6.heap.size v4 l := own4)
      | (refine stepR _ (by rfl) _ _ (by rfl) w6.heap.size v4 l (by rfl) (by (repeat' (first | with_reducible assumption | with_reducible exact own_less (ownR_empty _ rfl) (by (simp <;> omega)) | with_reducible exact own_less (ownR_empty _ (by simp)) (by (simp <;> omega)) | with_reducible refine ownR_al ?_ | with_reducible refine ownR_dr ?_))) _ K V A 8 D (by rfl) (by (repeat' (first | with_reducible exact Bk.new _ _ rfl | with_reducible exact Bk.new _ _ (by (simp <;> omega)) | with_reducible refine Bk.drew ?_ | with_reducible refine Bk.alloc ?_ _ | with_reducible refine Bk.grew ?_ (by assumption) (fun k e => by simp [Value.ownBlock] at e; omega)))) (by omega) (by have := hb4.size; (simp <;> omega)) ?_; intro g9 cap9 w9 own9 hg9 hl9; have hb9 : Below w6.heap.size w6 w9 := Below.grew (by (repeat' (first | with_reducible exact Below.refl _ _ | with_reducible assumption | with_reducible refine bAlloc ?_ _ | with_reducible refine Below.drew ?_))) hg9 (by have := hb4.size; (simp <;> omega)) (ownK_base own4)))
  all_goals go_wp2_with fail
  all_goals go_ret
  all_goals exact ⟨_, l ++ [(((K, V), (A, 8)), D)], rfl, by simp, rok_no (r := (((K, V), (A, 8)), D)) (by simp) (bad_time (by omega)), (fun r hr => (List.mem_append.1 hr).imp id (fun e => by rw [List.mem_singleton.1 e]; exact fun _ => hsm.2)), own_less own9 (by omega), ⟨(p1 + 1), by omega, by omega, hr60.keepb hb9⟩, x60.trans (Bx.of_below hb9)⟩
set_option maxHeartbeats 4000000 in
theorem l71Any2_any {B : Nat} {w : World} {g : Nat} {v : Value} {n : Nat} {p : Int} (h : Rd B w g v n p) (hp : 0 ≤ p) (hp' : p ≤ 600000) :
    Calls Tryz.prog 41 #[.pointer (some ⟨g, 0, none⟩)] w fun e w' => ∃ (o : Value) (l : List Rw), e = .returned o ∧ drD l ∧ OwnR w' w.heap.size o l ∧ (∃ p' : Int, p ≤ p' ∧ p' ≤ p + 700 ∧ Rd B w' g v n p') ∧ Bx g w w' := by
  have hg := h.blk.lt
  go_enter Tryz.func41, Tryz.ntmps41
  go_wp2_with fail
  refine (l71Rows_any h hp (by omega) 10 (by omega) (by omega)).mono ?_
  rintro e w1 ⟨o, l, rfl, hl, hsm, hown, ⟨p1, hp1, hp2, hr1⟩, hx1⟩
  have hs1 := hx1.size
  have HO : Hid (OwnR w1 w.heap.size o l) := hown
  have HS : Hid (∀ r ∈ l, smR r) := hsm
  clear hown hsm
  go_wp2_with fail
  refine (pick_any hr1 (by omega) (by omega) _ (by omega) (by omega)).mono ?_
  rintro e w2 ⟨k, rfl, hk0, hk1, hr2, hx2⟩
  have hx12 := hx1.trans hx2
  have HO2 : Hid (OwnR w2 w.heap.size o l) := own_keepx HO.out hx2 hg
  have hs2 := hx12.size
  by_cases hk : k = 0
  · subst hk
    go_wp2_with fail
    refine (l71Spoil2_any hr2 (by omega) (by omega) o l (OwnR.rs HO2.out (by omega)) (by omega) (fun W hW => OwnR.rs (own_keepx HO2.out hW hg) (by omega))).mono ?_
    rintro e w3 ⟨o3, l3, rfl, hl3, hb3, hds, hown3, ⟨p3, hp3, hp4, hr3⟩, hx3⟩
    have HO3 : Hid (OwnR w3 w2.heap.size o3 l3) := hown3
    clear hown3
    go_wp2_with fail
    go_ret
    exact ⟨_, l3, rfl, ⟨by omega, fun r hr => (hds r hr).elim (fun e => fun _ => (HS.out r e).2) id⟩, own_less HO3.out hs2, ⟨p3, by omega, by omega, hr3⟩, hx12.trans hx3⟩
  · have hkb : (k == 0) = false := by simpa using hk
    go_wp2_with fail
    go_ret
    exact ⟨_, l, rfl, ⟨by omega, fun r hr _ => (HS.out r hr).2⟩, HO2.out, ⟨_, by omega, by omega, hr2⟩, hx12⟩
theorem FillK.val {c : Array Value} {L : List Rw} {n i : Nat} {K V D : Int} {T : Int × Int} (h : FillK rowC 5 c L n) (hi : L[i]? = some (((K, V), T), D)) (hin : i < n) (hs : i * 5 + 1 < c.size) (V' : Int) :
    FillK rowC 5 (c.setIfInBounds (i * 5 + 1) (.int .i64 V')) (L.set i (((K, V'), T), D)) n := by
  intro j x hj hx q hq
  have hil := (List.getElem?_eq_some_iff.1 hi).1
  rw [List.getElem?_set] at hx
  rw [Array.getElem?_setIfInBounds]
  by_cases e : i = j
  · subst e
    rw [if_pos rfl, if_pos hil] at hx
    cases hx
    by_cases hq1 : q = 1
    · subst hq1; rw [if_pos rfl, if_pos hs]; rfl
    · rw [if_neg (by omega), h i _ hin hi q hq]
      match q, hq1, hq with
      | 0, _, _ => rfl
      | 2, _, _ => rfl
      | 3, _, _ => rfl
      | 4, _, _ => rfl
  · rw [if_neg e] at hx
    rw [if_neg (by omega), h j x hj hx q hq]
theorem row_two {w : World} {B : Nat} {v : Value} {L : List Rw} (h : OwnR w B v L) {i : Nat} {K V D : Int} {T : Int × Int} (hr : L[i]? = some (((K, V), T), D)) (K' V' : Int) :
    ∃ g cap, v = .slice (some ⟨g, 0, none⟩) L.length cap ∧ B ≤ g ∧ g < w.heap.size ∧ w.frozen? ⟨g, i * 5, none⟩ = false ∧ w.cell? ⟨g, i * 5, none⟩ = some (.int .i64 K) ∧
      (w.setCell ⟨g, i * 5, none⟩ (.int .i64 K')).frozen? ⟨g, i * 5 + 1, none⟩ = false ∧ (w.setCell ⟨g, i * 5, none⟩ (.int .i64 K')).cell? ⟨g, i * 5 + 1, none⟩ = some (.int .i64 V) ∧
      OwnR ((w.setCell ⟨g, i * 5, none⟩ (.int .i64 K')).setCell ⟨g, i * 5 + 1, none⟩ (.int .i64 V')) B v (L.set i (((K', V'), T), D)) := by
  have hi := (List.getElem?_eq_some_iff.1 hr).1
  rcases ownK_open h rowC_len with ⟨rfl, rfl⟩ | ⟨g, cap, c, rfl, hg, hb, hs, hc, hm, hf⟩
  · simp at hi
  · have hsz : i * 5 + 1 < c.size := by rw [hs]; omega
    have f1 := hf.key hr hi (by omega) K'
    have hb1 := hb.set (i * 5) (.int .i64 K')
    have hr1 : (L.set i (((K', V), T), D))[i]? = some (((K', V), T), D) := by rw [List.getElem?_set_self hi]
    have c0 : c[i * 5]? = some (.int .i64 K) := by have := hf i _ hi hr 0 (by omega); simpa using this
    have c1 : (c.setIfInBounds (i * 5) (.int .i64 K'))[i * 5 + 1]? = some (.int .i64 V) := by
      have := f1 i _ hi hr1 1 (by omega); simpa using this
    refine ⟨g, cap, rfl, hg, hb.lt, hb.free _, hb.cell c0, hb1.free _, hb1.cell c1, ?_⟩
    have f2 := FillK.val f1 hr1 hi (by simpa using hsz) V'
    rw [List.set_set] at f2
    have := ownK_of_fill (B := B) (hb1.set (i * 5 + 1) (.int .i64 V')) (l := L.set i (((K', V'), T), D)) (by rw [List.length_set]; exact f2) rowC_len (by simpa using hs) (by simpa using hc) hm hg
    simpa using this
theorem dsm_set {L : List Rw} {i : Nat} {K V K' V' D : Int} {T : Int × Int} (h : ∀ r ∈ L, dsm r) (hr : L[i]? = some (((K, V), T), D)) : ∀ r ∈ L.set i (((K', V'), T), D), dsm r := fun r hrm => by
  rcases List.mem_or_eq_of_mem_set hrm with e | e
  · exact h r e
  · have q := h _ (List.mem_of_getElem? hr)
    rw [e]; exact q
set_option maxRecDepth 100000 in
set_option maxHeartbeats 16000000 in
theorem drawFlowSum_any (a : Option Addr) (len cap : Nat) (w : World) (h : Src w (.slice a len cap) len) :
    Calls Tryz.prog 11 #[.slice a len cap] w fun e w' => ∃ (o : Value) (l : List Rw) (kind : Int), e = .returned (.tuple #[o, .int .i64 kind]) ∧ drD l ∧ Rs w' o l ∧ Below w.heap.size w w' := by
  go_enter Tryz.func11, Tryz.ntmps11
  go_wp2_with fail
  refine (l6Open_any _ _ _ _ h).mono ?_
  rintro e w1 ⟨rfl, ⟨v, n, hr1⟩, hb1⟩
  clear h
  have hs1 := hb1.size
  have hg := hr1.blk.lt
  go_wp2_with fail
  refine (l71Any2_any hr1 (by omega) (by omega)).mono ?_
  rintro e w2 ⟨o, l0, rfl, hd0, hown, ⟨p1, hp1, hp2, hr2⟩, hx2⟩
  have hl := hd0.1
  have hb2 := hx2.below hb1 hs1 (Nat.le_refl _)
  have HO : Hid (OwnR w2 w1.heap.size o l0 ∧ ∀ r ∈ l0, dsm r) := ⟨hown, hd0.2⟩
  have HR : Hid (Rd w.heap.size w2 w.heap.size v n p1) := hr2
  obtain ⟨ado, capo, rfl⟩ : ∃ ad cp, o = .slice ad l0.length cp := by
    rcases ownK_open hown rowC_len with ⟨rfl, rfl⟩ | ⟨g, cp, c, rfl, _⟩
    · exact ⟨_, _, rfl⟩
    · exact ⟨_, _, rfl⟩
  have hs2 := hx2.size
  clear hown hr2 hr1 hx2 hb1 hd0
  go_wp2_with fail
  go_loopw [6] (fun b wr => ∃ (k : Nat) (L : List Rw) (p : Int), k ≤ l0.length ∧ b = .int .i64 k ∧ 0 ≤ p ∧ p ≤ p1 + k ∧ L.length = l0.length ∧ (OwnR wr w1.heap.size (.slice ado l0.length capo) L ∧ ∀ r ∈ L, dsm r) ∧ Rd w.heap.size wr w.heap.size v n p ∧ Below w.heap.size w wr ∧ w1.heap.size ≤ wr.heap.size) (fun b _ => l0.length - (intOf b).toNat)
  case atStart => exact ⟨0, l0, p1, by omega, rfl, by omega, by omega, rfl, HO.out, HR.out, hb2, hs2⟩
  case round =>
    clear HO HR hb2 hs2
    obtain ⟨k, L, p, hk, rfl, hp0, hpk, hL, hown, hrd, hb, hsw⟩ := hrel
    have HO : Hid (OwnR wr w1.heap.size (.slice ado l0.length capo) L ∧ ∀ r ∈ L, dsm r) := hown
    have HRD : Hid (Rd w.heap.size wr w.heap.size v n p) := hrd
    have hszw := hb.size
    clear hown hrd
    by_cases hlt : k < l0.length
    case' pos =>
      have ii : ((k : Int) < (l0.length : Int)) := by omega
      go_wp2_with fail
      refine (pick_any HRD.out (by omega) (by omega) _ (by omega) (by omega)).mono ?_
      rintro e wa ⟨z, rfl, hz0, hz1, hra, hxa⟩
      have HOa : Hid (OwnR wa w1.heap.size (.slice ado l0.length capo) L ∧ ∀ r ∈ L, dsm r) := ⟨own_keepx HO.out.1 hxa hg, HO.out.2⟩
      have hba := hxa.below hb hszw (Nat.le_refl _)
      have hsa := hxa.size
      have HRa : Hid (Rd w.heap.size wa w.heap.size v n (p + 1)) := hra
      clear hra HO HRD hxa hb
      by_cases hz : 0 < z
    · obtain ⟨⟨⟨⟨K, V⟩, T⟩, D⟩, hr⟩ : ∃ r, L[k]? = some r := ⟨_, List.getElem?_eq_getElem (by omega)⟩
      have t1 := Int.tmod_lt_of_pos K (b := 2) (by omega)
      have t2 : -2 < K.tmod 2 := by have := Int.lt_tmod_of_pos K (b := 2) (by omega); omega
      have t3 := Int.tmod_lt_of_pos V (b := 4) (by omega)
      have t4 : -4 < V.tmod 4 := by have := Int.lt_tmod_of_pos V (b := 4) (by omega); omega
      obtain ⟨g4, cap4, e4, hg4, hlt4, f4, c4, f5, c5, own4⟩ := row_two HOa.out.1 hr (K.tmod 2) (V.tmod 4)
      rw [hL] at e4
      cases e4
      have HO4 : Hid (OwnR ((wa.setCell ⟨g4, k * 5, none⟩ (.int .i64 (K.tmod 2))).setCell ⟨g4, k * 5 + 1, none⟩ (.int .i64 (V.tmod 4))) w1.heap.size (.slice (some ⟨g4, 0, none⟩) l0.length capo) (L.set k (((K.tmod 2, V.tmod 4), T), D)) ∧ ∀ r ∈ L.set k (((K.tmod 2, V.tmod 4), T), D), dsm r) := ⟨own4, dsm_set HOa.out.2 hr⟩
      have HR4 : Hid (Rd w.heap.size ((wa.setCell ⟨g4, k * 5, none⟩ (.int .i64 (K.tmod 2))).setCell ⟨g4, k * 5 + 1, none⟩ (.int .i64 (V.tmod 4))) w.heap.size v n (p + 1)) := (HRa.out.apart (q := ⟨g4, k * 5, none⟩) (show w.heap.size ≠ g4 by omega) (show w.heap.size ≤ g4 by omega) _).apart (q := ⟨g4, k * 5 + 1, none⟩) (show w.heap.size ≠ g4 by omega) (show w.heap.size ≤ g4 by omega) _
      have hb4 : Below w.heap.size w ((wa.setCell ⟨g4, k * 5, none⟩ (.int .i64 (K.tmod 2))).setCell ⟨g4, k * 5 + 1, none⟩ (.int .i64 (V.tmod 4))) := (hba.setCell (show w.heap.size ≤ g4 by omega) _).setCell (show w.heap.size ≤ g4 by omega) _
      clear own4 HOa HRa hr
      go_wp2_with fail
      go_roundw
      case rel => exact ⟨k + 1, _, p + 1, by omega, by go_num, by omega, by omega, by simpa using hL, HO4.out, HR4.out, hb4, by simp; omega⟩
      case measure => simp [intOf]; omega
    all_goals
      first
        | (obtain ⟨wz, hwz⟩ : ∃ wz, wz = wa := ⟨_, rfl⟩
           subst hwz
           have HG : Hid (OwnR wz w1.heap.size (.slice ado l0.length capo) L ∧ ∀ r ∈ L, dsm r) := HOa.out
           obtain ⟨pp, hpp⟩ : ∃ pp, pp = p + 1 := ⟨_, rfl⟩
           have HR5 : Hid (Rd w.heap.size wz w.heap.size v n pp) := by rw [hpp]; exact HRa.out
           have HB5 : Hid (Below w.heap.size w wz) := hba
           have hq0 : 0 ≤ pp := by omega
           have hq1 : pp ≤ 100000 := by omega
           clear hpp HRa HOa hba)
        | (obtain rfl : k = l0.length := by omega
           obtain ⟨wz, hwz⟩ : ∃ wz, wz = wr := ⟨_, rfl⟩
           subst hwz
           have HG : Hid (OwnR wz w1.heap.size (.slice ado l0.length capo) L ∧ ∀ r ∈ L, dsm r) := HO.out
           obtain ⟨pp, hpp⟩ : ∃ pp, pp = p := ⟨_, rfl⟩
           have HR5 : Hid (Rd w.heap.size wz w.heap.size v n pp) := by rw [hpp]; exact HRD.out
           have HB5 : Hid (Below w.heap.size w wz) := hb
           have hq0 : 0 ≤ pp := by omega
           have hq1 : pp ≤ 100000 := by omega
           clear hpp HRD HO hb)
      obtain ⟨l, hlL⟩ : ∃ l, l = L := ⟨_, rfl⟩
      subst hlL
      have hd : drD l := ⟨by omega, HG.out.2⟩
      have HO : Hid (∀ W', Bx w.heap.size wz W' → Rs W' (.slice ado l0.length capo) l) := fun W' hW => OwnR.rs (own_keepx HG.out.1 hW hg) (by omega)
      have hsz5 := HB5.out.size
      obtain ⟨o, ho5⟩ : ∃ o, o = Value.slice ado l0.length capo := ⟨_, rfl⟩
      rw [← ho5] at HO
      go_wp2_with fail
      refine (pick_any HR5.out hq0 (by omega) _ (by omega) (by omega)).mono ?_
      rintro e w3 ⟨k, rfl, hk0, hk1, hr3, hx3⟩
      have hb3 := hx3.below HB5.out hsz5 (Nat.le_refl _)
      have hg3 := hr3.blk.lt
      have hs3 := hx3.size
      rw [← ho5]
      clear ho5
      by_cases hk : k = 0
      · subst hk
        go_wp2_with fail
        refine wp_region_inv (by kernel_rfl) (KinI w.heap.size w.heap.size n v o (pp + 1) w3) ?hg ?hs ?h0 ?hstep ?hend
        case hg =>
          intro i op ho
          have hi : i < 8 := (Array.getElem?_eq_some_iff.1 ho).1
          obtain rfl | rfl | rfl | rfl | rfl | rfl | rfl | rfl : i = 0 ∨ i = 1 ∨ i = 2 ∨ i = 3 ∨ i = 4 ∨ i = 5 ∨ i = 6 ∨ i = 7 := by omega
          all_goals cases ho; rfl
        case hs => intro L a W hI; exact hI.1
        case h0 =>
          refine ⟨by simp, fun _ => hr3.keepb (Below.refl _ _).drew, (Bx.refl _ _).drew, _, _, _, _, _, _, _, _, _, _, _, _, _, _, _, _, _, _, _, _, _, _, _, _, _, _, _, _, _, _, _, _, _, _, _, _, _, _, _, _, _, _, _, _, _, _, _, _, _, _, _, _, _, rfl, ?_⟩
          constructor <;> (intro e; simp at e)
        case hend =>
          rintro L a W ⟨hLs, hR, hx, z0, z1, t2, t3, z6, z7, z8, z9, z10, z11, z12, z13, z14, z15, z16, z17, z18, z19, z20, z21, z22, z23, z24, z25, z26, z27, z28, z29, z30, z31, z32, z33, z34, z35, z36, z37, z38, z39, z40, z41, z42, z43, z44, t13, t14, t15, t16, t17, t18, z51, z52, z53, z54, rfl, S⟩ hr
          have hall : ∀ j, j < 8 → L.getD j false = true := by
            refine all_listed2 (by simpa using hLs) ?_ hr
            intro i op ho
            have hi : i < 8 := (Array.getElem?_eq_some_iff.1 ho).1
            obtain rfl | rfl | rfl | rfl | rfl | rfl | rfl | rfl : i = 0 ∨ i = 1 ∨ i = 2 ∨ i = 3 ∨ i = 4 ∨ i = 5 ∨ i = 6 ∨ i = 7 := by omega
            all_goals cases ho
            all_goals (first | (simp; done) | (simp [Region.binds]; done) | decide)
          have e2 := S.s6 (hall 6 (by omega))
          subst e2
          obtain ⟨V, rfl⟩ := S.s7 (hall 7 (by omega))
          clear S
          go_wp2_with fail
          refine bodyPost_ret (by simp [results, Tryz.results11, go_sem]; try rfl) rfl ?_
          exact ⟨_, l, V, rfl, hd, HO.out _ (hx3.trans hx), hx.below hb3 (by omega) (by omega)⟩
        case hstep =>
          rintro L a W i op ⟨hLs, hR, hx, z0, z1, t2, t3, z6, z7, z8, z9, z10, z11, z12, z13, z14, z15, z16, z17, z18, z19, z20, z21, z22, z23, z24, z25, z26, z27, z28, z29, z30, z31, z32, z33, z34, z35, z36, z37, z38, z39, z40, z41, z42, z43, z44, t13, t14, t15, t16, t17, t18, z51, z52, z53, z54, rfl, S⟩ hi ho
          obtain ⟨hun, o', ho', hall⟩ := mem_ready.1 hi
          rw [ho] at ho'
          cases ho'
          have hi8 : i < 8 := (Array.getElem?_eq_some_iff.1 ho).1
          clear hi
          generalize hK : (fun a' w' => KinI w.heap.size w.heap.size n v o (pp + 1) w3 (L.setIfInBounds i true) a' w') = K
          obtain rfl | rfl | rfl | rfl | rfl | rfl | rfl | rfl : i = 0 ∨ i = 1 ∨ i = 2 ∨ i = 3 ∨ i = 4 ∨ i = 5 ∨ i = 6 ∨ i = 7 := by omega
          · cases ho
            go_simp
            subst hK
            exact kinI_next hLs hx (Bx.refl _ _) (fun e => hR (getD_setT (by decide) e)) (S.put0 rfl)
          · cases ho
            have hgW : w.heap.size < W.heap.size := Nat.lt_of_lt_of_le hg3 hx.size
            have hxa : Bx w.heap.size W (W.alloc (.cells kinA 3)) := (Bx.refl _ _).alloc _
            go_simp
            subst hK
            exact kinI_next hLs hx hxa (fun e => (hR (getD_setT (by decide) e)).keepb (bAlloc (Below.refl _ _) _)) ((S.keep hxa).put1 ⟨W.heap.size, by omega, Bk.new _ _ rfl, rfl⟩)
          · cases ho
            go_simp
            subst hK
            exact kinI_next hLs hx (Bx.refl _ _) (fun e => hR (getD_setT (by decide) e)) (S.put2 rfl)
          · cases ho
            have e2 := S.s2 (hall ⟨2, .data⟩ (by simp) rfl)
            subst e2
            go_simp
            refine (pick_any (hR hun) (by omega) (by omega) _ (by omega) (by omega)).mono ?_
            rintro e W1 ⟨k, rfl, hk0, hk1, hR1, hx1⟩
            obtain ⟨j, rfl⟩ := Int.eq_ofNat_of_zero_le hk0
            subst hK
            exact kinI_next hLs hx hx1 (fun e => by simp [hLs] at e) ((S.keep hx1).put3 ⟨j, by omega, rfl⟩)
          · cases ho
            obtain ⟨b, hb2, hb3, rfl⟩ := S.s1 (hall ⟨1, .data⟩ (by simp) rfl)
            obtain ⟨j, hj, rfl⟩ := S.s3 (hall ⟨3, .data⟩ (by simp) rfl)
            have hj' : ((j : Int) < 3) := by omega
            go_simp
            subst hK
            exact kinI_next hLs hx (Bx.refl _ _) (fun e => hR (getD_setT (by decide) e)) (S.put4 ⟨b, j, hb2, hj, hb3, rfl⟩)
          · cases ho
            obtain ⟨b, j, hb2, hj, hb3, rfl⟩ := S.s4 (hall ⟨4, .data⟩ (by simp) rfl)
            obtain ⟨V, hV⟩ := kin_at hj
            have hc := hb3.cell hV
            go_simp
            subst hK
            exact kinI_next hLs hx (Bx.refl _ _) (fun e => hR (getD_setT (by decide) e)) (S.put5 ⟨V, rfl⟩)
          · cases ho
            have e0 := S.s0 (hall ⟨0, .data⟩ (by simp) rfl)
            subst e0
            go_simp
            subst hK
            exact kinI_next hLs hx (Bx.refl _ _) (fun e => hR (getD_setT (by decide) e)) (S.put6 rfl)
          · cases ho
            obtain ⟨V, rfl⟩ := S.s5 (hall ⟨5, .data⟩ (by simp) rfl)
            go_simp
            subst hK
            exact kinI_next hLs hx (Bx.refl _ _) (fun e => hR (getD_setT (by decide) e)) (S.put7 ⟨V, rfl⟩)
      have hkb : (k == 0) = false := by simpa using hk
      go_wp2_with fail
      refine (pick_any hr3 (by omega) (by omega) _ (by omega) (by omega)).mono ?_
      rintro e w4 ⟨k4, rfl, hk40, hk41, hr4, hx4⟩
      have hsum : IntKind.i64.wrap (1 + k4) = 1 + k4 := by rw [IntKind.wrap_i64]; omega
      go_wp2_with fail
      refine bodyPost_ret (v := .tuple #[o, .int .i64 (1 + k4)]) (by simp [results, Tryz.results11, go_sem]) rfl ?_
      exact ⟨o, l, _, rfl, hd, HO.out _ (hx3.trans hx4), hx4.below hb3 (by omega) (Nat.le_refl _)⟩
end Go.Proofs.YtpjmkejojenflaaGreat
