/- How a plan is written, by the program: the contracts. -/
import Derived.Test.YtfofchgcbdbikaaDoorGpa
import Derived.Test.YtfofchgcbdbikaaDoorLp0
namespace Go.Proofs.YtfofchgcbdbikaaDoor
open Go.RowKit Go.Shelf

abbrev baS (l : By) : ByteArray := ⟨l.toArray⟩
theorem baS_app (a b : By) : baS a ++ baS b = baS (a ++ b) := by
  apply ByteArray.ext
  simp [baS, ByteArray.data_append]
theorem baS_size (l : By) : (baS l).size = l.length := by show l.toArray.size = _; simp
theorem itoa_dig {n : Int} {x : UInt8} (hx : UInt8.ofNat (48 + n.toNat) = x) (h0 : 0 ≤ n) (h9 : n ≤ 9) (w : World) : Calls Tryd.prog 80 #[.int .i64 n] w fun e w' => e = .returned (.string (baS [x])) ∧ w' = w := by
  subst hx
  obtain ⟨i, rfl⟩ := Int.eq_ofNat_of_zero_le h0
  refine (Any.strconv_Itoa_small itoU i (by omega) w).mono ?_
  rintro e w' ⟨rfl, rfl⟩
  refine ⟨?_, rfl⟩
  rw [Lib.decDigits_one (by omega)]
  rfl
/-- How a kind is written, to the letter. -/
def ShapeW (k : Int) (F : Nat) : Prop := ∀ (n : Int) (w : World), 0 ≤ n → n ≤ 9 → Calls Tryd.prog F #[.int .i64 n] w fun e w' => e = .returned (shV (baS (headB k n)) (kidN k) (numLo k) (numHi k)) ∧ Below w.heap.size w w'

set_option maxRecDepth 100000 in
set_option maxHeartbeats 4000000 in
theorem word_in : ShapeW 1 79 := fun n w h0 h9 => by
  obtain ⟨x, hx⟩ : ∃ x, UInt8.ofNat (48 + n.toNat) = x := ⟨_, rfl⟩
  have e1 : headB 1 n = [105, 110] ++ [x] := by rw [← hx]; rfl
  have HX : Hid (UInt8.ofNat (48 + n.toNat) = x) := hx
  clear hx
  have e2 := baS_app [105, 110] [x]
  have hs2 : ¬ (9223372036854775807 < 2 + (baS [x]).size) := by rw [baS_size]; simp
  go_enter Tryd.func79, Tryd.ntmps79
  go_wp2_with fail
  refine (itoa_dig HX.out h0 h9 _).mono ?_
  rintro e w1 ⟨rfl, rfl⟩
  go_wp2_with fail
  refine bodyPost_ret (by simp [results, Tryd.results79, go_sem]; try rfl) rfl ?_
  rw [e1, ← e2]
  exact ⟨rfl, bAlloc (Below.refl _ _) _⟩
set_option maxRecDepth 100000 in
set_option maxHeartbeats 4000000 in
theorem word_each : ShapeW 2 94 := fun n w h0 h9 => by
  obtain ⟨x, hx⟩ : ∃ x, UInt8.ofNat (48 + n.toNat) = x := ⟨_, rfl⟩
  have e1 : headB 2 n = [101, 97, 99, 104] ++ [x] := by rw [← hx]; rfl
  have HX : Hid (UInt8.ofNat (48 + n.toNat) = x) := hx
  clear hx
  have e2 := baS_app [101, 97, 99, 104] [x]
  have hs2 : ¬ (9223372036854775807 < 4 + (baS [x]).size) := by rw [baS_size]; simp
  go_enter Tryd.func94, Tryd.ntmps94
  go_wp2_with fail
  refine (itoa_dig HX.out h0 h9 _).mono ?_
  rintro e w1 ⟨rfl, rfl⟩
  go_wp2_with fail
  refine bodyPost_ret (by simp [results, Tryd.results94, go_sem]; try rfl) rfl ?_
  rw [e1, ← e2]
  exact ⟨rfl, bAlloc (Below.refl _ _) _⟩
set_option maxRecDepth 100000 in
set_option maxHeartbeats 4000000 in
theorem word_sum : ShapeW 6 98 := fun n w h0 h9 => by
  obtain ⟨x, hx⟩ : ∃ x, UInt8.ofNat (48 + n.toNat) = x := ⟨_, rfl⟩
  have e1 : headB 6 n = [115, 117, 109] ++ [x] := by rw [← hx]; rfl
  have HX : Hid (UInt8.ofNat (48 + n.toNat) = x) := hx
  clear hx
  have e2 := baS_app [115, 117, 109] [x]
  have hs2 : ¬ (9223372036854775807 < 3 + (baS [x]).size) := by rw [baS_size]; simp
  go_enter Tryd.func98, Tryd.ntmps98
  go_wp2_with fail
  refine (itoa_dig HX.out h0 h9 _).mono ?_
  rintro e w1 ⟨rfl, rfl⟩
  go_wp2_with fail
  refine bodyPost_ret (by simp [results, Tryd.results98, go_sem]; try rfl) rfl ?_
  rw [e1, ← e2]
  exact ⟨rfl, bAlloc (Below.refl _ _) _⟩
set_option maxRecDepth 100000 in
theorem word_both : ShapeW 3 95 := fun n w _ _ => by
  go_enter Tryd.func95, Tryd.ntmps95
  go_wp2_with fail
  refine bodyPost_ret (by simp [results, Tryd.results95, go_sem]; try rfl) rfl ?_
  exact ⟨rfl, bAlloc (Below.refl _ _) _⟩
set_option maxRecDepth 100000 in
theorem word_less : ShapeW 4 96 := fun n w _ _ => by
  go_enter Tryd.func96, Tryd.ntmps96
  go_wp2_with fail
  refine bodyPost_ret (by simp [results, Tryd.results96, go_sem]; try rfl) rfl ?_
  exact ⟨rfl, bAlloc (Below.refl _ _) _⟩
set_option maxRecDepth 100000 in
theorem word_join : ShapeW 5 97 := fun n w _ _ => by
  go_enter Tryd.func97, Tryd.ntmps97
  go_wp2_with fail
  refine bodyPost_ret (by simp [results, Tryd.results97, go_sem]; try rfl) rfl ?_
  exact ⟨rfl, bAlloc (Below.refl _ _) _⟩
theorem word_of {k : Int} (h : inB k 1 6 = true) : ∃ F, KindIs k (kT k) F ∧ ShapeW k F := by
  have h2 : 1 ≤ k ∧ k ≤ 6 := by simpa [inB] using h
  have : k = 1 ∨ k = 2 ∨ k = 3 ∨ k = 4 ∨ k = 5 ∨ k = 6 := by omega
  rcases this with rfl | rfl | rfl | rfl | rfl | rfl
  · exact ⟨_, kind_in, word_in⟩
  · exact ⟨_, kind_each, word_each⟩
  · exact ⟨_, kind_both, word_both⟩
  · exact ⟨_, kind_less, word_less⟩
  · exact ⟨_, kind_join, word_join⟩
  · exact ⟨_, kind_sum, word_sum⟩
theorem okS_atL {p : Nat → Prop} {w : World} {t : PT} {a : Option Addr} {n c : Nat} (h : OkS p w t (.slice a n c)) {i : Nat} (hi : i < t.len) :
    ∃ g off sx, a = some ⟨g, off, none⟩ ∧ g < w.heap.size ∧ w.cell? ⟨g, off + i * 2, none⟩ = some (kiV (t.kid i)) ∧ w.cell? ⟨g, off + i * 2 + 1, none⟩ = some sx ∧ OkS p w (t.kid i) sx ∧ (∃ b m d, sx = .slice b m d) := by
  cases t with
  | n0 k n => simp [PT.len] at hi
  | n1 k n x =>
    obtain ⟨g, c, sx, e, _, h1, h2, h3⟩ := h
    obtain rfl : i = 0 := by simp [PT.len] at hi; exact hi
    cases e
    obtain ⟨b, d, e2⟩ := h3.sl
    exact ⟨g, 0, sx, rfl, lt_of_cell h1, by simpa [PT.kid] using h1, by simpa using h2, h3, _, _, _, e2⟩
  | n2 k n x y =>
    obtain ⟨g, c, sx, sy, e, _, h1, h2, h3, h4, h5, h6⟩ := h
    cases e
    cases i with
    | zero =>
      obtain ⟨b, d, e2⟩ := h5.sl
      exact ⟨g, 0, sx, rfl, lt_of_cell h1, by simpa [PT.kid] using h1, by simpa using h2, h5, _, _, _, e2⟩
    | succ i =>
      obtain rfl : i = 0 := by simp [PT.len] at hi; omega
      obtain ⟨b, d, e2⟩ := h6.sl
      exact ⟨g, 0, sy, rfl, lt_of_cell h1, by simpa [PT.kid] using h3, by simpa using h4, h6, _, _, _, e2⟩
theorem okS_keepL {p : Nat → Prop} {w w' : World} (hb : Below w.heap.size w w') {t : PT} {s : Value} (h : OkS p w t s) : OkS p w' t s := h.move fun g hg hl => ⟨hg, hb.block g hl⟩
theorem shape_word (x : ByteArray) (a b c : Int) (u : World) : (Instr.field 75 (shV x a b c) 0).run Tryd.prog u = .ok (.string x) u := by kernel_rfl
/-- The text of a plan with its first parts. -/
def textP (t : PT) : Nat → By
  | 0 => headB t.k t.n
  | i + 1 => textP t i ++ 32 :: textT (t.kid i)
theorem textP_all (t : PT) : textP t t.len = textT t := by
  cases t <;> simp [textP, PT.len, textT, PT.k, PT.n, PT.kid]
theorem textP_len {t : PT} {d : Nat} (h : pokB t (d + 1) = true) : ∀ i, i ≤ t.len → (textP t i).length ≤ 5 + i * (7 * 2 ^ d)
  | 0, _ => by
    have := cand_short _ (here_cand (pok_parts h).1).1
    simp only [textP] at *; omega
  | i + 1, hi => by
    have h1 := textP_len h i (by omega)
    have h2 := text_len d _ ((pok_parts h).2 i hi)
    have h3 : (i + 1) * (7 * 2 ^ d) = i * (7 * 2 ^ d) + 7 * 2 ^ d := by rw [Nat.succ_mul]
    simp only [textP, List.length_append, List.length_cons]
    omega
set_option maxRecDepth 100000 in
set_option maxHeartbeats 8000000 in
theorem text_any : ∀ (d : Nat) (t : PT) {p : Nat → Prop} {s : Value} {w : World}, d ≤ 4 → pokB t d = true → OkS p w t s →
    Calls Tryd.prog 24 #[.agg #[kiV t, s]] w fun e w' => e = .returned (.string (baS (textT t))) ∧ Below w.heap.size w w' := by
  intro d
  induction d with
  | zero => intro t p s w _ hp; rw [pok_zero] at hp; cases hp
  | succ d ih =>
    intro t p s w hd hp hs
    obtain ⟨hh, hk⟩ := pok_parts hp
    have hc := cand_in _ (here_cand hh).1
    obtain ⟨F, H, HW⟩ := word_of (k := t.k) (by simp only [inB, decide_eq_true_eq]; exact ⟨hc.1, hc.2.1⟩)
    have hn : 0 ≤ t.n ∧ t.n ≤ 9 := by
      have h1 := hc.2.2
      simp only [numLo, numHi] at h1
      constructor <;> (split at h1 <;> split at h1 <;> omega)
    have HSW := (show Hid (ShapeW t.k F) from HW)
    have hme := H.meth
    have hen := H.enters
    have HK := (show Hid _ from hk)
    have HIH := (show Hid _ from @ih)
    have HP2 : Hid (2 ^ d ≤ 8) := by
      show 2 ^ d ≤ 8
      obtain rfl | rfl | rfl | rfl : d = 0 ∨ d = 1 ∨ d = 2 ∨ d = 3 := by omega
      all_goals decide
    have HTL : Hid (∀ i, i ≤ t.len → (textP t i).length ≤ 5 + i * (7 * 2 ^ d)) := textP_len hp
    have hb0 : Below w.heap.size w (w.alloc (.cells #[kiV t, s] 49)) := bAlloc (Below.refl _ _) _
    have bP : Bk (w.alloc (.cells #[kiV t, s] 49)) w.heap.size #[kiV t, s] 49 := Bk.new _ _ rfl
    have HSL := (show Hid (OkS p w t s) from hs)
    obtain ⟨sa, sc, rfl⟩ := hs.sl
    have htl := PT.len_le t
    obtain ⟨x0, x1, _, _⟩ := bP.two
    clear hs hk hh hc H HW hp ih
    go_enter Tryd.func24, Tryd.ntmps24
    go_wp2_with fail
    generalize w.alloc (.cells #[kiV t, .slice sa t.len sc] 49) = W0 at *
    refine (HSW.out t.n _ hn.1 hn.2).mono ?_
    rintro e w1 ⟨rfl, hb1⟩
    have bP1 := bP.keep hb1
    have hbw1 := bStep hb0 hb1
    clear x0 x1 bP hb0 hb1 hme hen
    obtain ⟨x0, x1, _, _⟩ := bP1.two
    have hsw := shape_word (baS (headB t.k t.n)) (kidN t.k) (numLo t.k) (numHi t.k) w1
    go_wp2_with fail
    clear x0 x1 hsw
    go_loopw [3, 13] (fun o i wr => ∃ k : Nat, k ≤ t.len ∧ i = .int .i64 k ∧ o = .string (baS (textP t k)) ∧ Below w.heap.size w wr) (fun _ i _ => t.len - (intOf i).toNat)
    case atStart => exact ⟨0, by omega, rfl, rfl, hbw1⟩
    case round =>
      obtain ⟨k, hkl, rfl, rfl, hb⟩ := hrel
      by_cases hlt : k < t.len
      · have ik : ((k : Int) < (t.len : Int)) := by omega
        obtain ⟨g, off, sx, rfl, hgl, c0, c1, hkid, b2, m2, d2, rfl⟩ := okS_atL (okS_keepL hb HSL.out) hlt
        have bx := Bk.new (w := wr) #[kiV (t.kid k), .slice b2 m2 d2] 49 rfl
        have hbx : Below wr.heap.size wr (wr.alloc (.cells #[kiV (t.kid k), .slice b2 m2 d2] 49)) := bAlloc (Below.refl _ _) _
        have HC6 := (show Hid _ from HIH.out (t.kid k) (by omega) (HK.out k hlt) (okS_keepL hbx hkid))
        have hbw5 := bStep hb hbx
        obtain ⟨q0, q1, _, _⟩ := bx.two
        clear hkid bx
        go_wp2_with fail
        refine Calls.mono HC6.out ?_
        rintro e w7 ⟨rfl, hb7⟩
        have hbw7 := bStep hbw5 hb7
        have HL1 := HTL.out (k + 1) hlt
        have HL2 : (textP t k).length ≤ 200 ∧ (textT (t.kid k)).length ≤ 200 := by
          have h1 := HP2.out
          have h2 := HTL.out k hkl
          have h3 : k * (7 * 2 ^ d) ≤ 2 * 56 := Nat.mul_le_mul (by omega) (by omega)
          have h4 : (k + 1) * (7 * 2 ^ d) ≤ 2 * 56 := Nat.mul_le_mul (by omega) (by omega)
          simp only [textP, List.length_append, List.length_cons] at HL1
          omega
        have e1 : ({ data := #[32] } : ByteArray) ++ baS (textT (t.kid k)) = baS (32 :: textT (t.kid k)) := baS_app [32] _
        have e2 : baS (textP t k) ++ baS (32 :: textT (t.kid k)) = baS (textP t (k + 1)) := baS_app _ _
        have z1 : ¬ (9223372036854775807 < 1 + (baS (textT (t.kid k))).size) := by rw [baS_size]; omega
        have z2 : ¬ (9223372036854775807 < (baS (textP t k)).size + (baS (32 :: textT (t.kid k))).size) := by rw [baS_size, baS_size]; simp; omega
        clear HC6 q0 q1 c0 c1 HL1 HL2
        go_wp2_with fail
        go_roundw
        case rel => exact ⟨k + 1, by omega, by go_num, by rw [← e2, ← e1], hbw7⟩
        case measure => simp [intOf]; omega
      · obtain rfl : k = t.len := by omega
        have e3 := textP_all t
        go_wp2_with fail
        go_ret
        exact ⟨by rw [e3]; rfl, hb⟩
end Go.Proofs.YtfofchgcbdbikaaDoor
