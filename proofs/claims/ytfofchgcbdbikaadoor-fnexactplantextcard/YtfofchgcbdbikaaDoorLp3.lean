/- How a plan is written, by the model: the contract. -/
import Derived.Test.YtfofchgcbdbikaaDoorLp2
namespace Go.Proofs.YtfofchgcbdbikaaDoor
open Go.RowKit Go.Shelf

abbrev namA : Array Value := #[.string ⟨#[]⟩, .string ⟨#[105, 110]⟩, .string ⟨#[101, 97, 99, 104]⟩, .string ⟨#[98, 111, 116, 104]⟩, .string ⟨#[108, 101, 115, 115]⟩, .string ⟨#[106, 111, 105, 110]⟩, .string ⟨#[115, 117, 109]⟩]
theorem nam_at {k : Nat} (h1 : 1 ≤ k) (h6 : k ≤ 6) : namA[k]? = some (.string (baS (nameB k))) := by
  obtain rfl | rfl | rfl | rfl | rfl | rfl : k = 1 ∨ k = 2 ∨ k = 3 ∨ k = 4 ∨ k = 5 ∨ k = 6 := by omega
  all_goals rfl
theorem Bk.at {w : World} {g i : Nat} {c : Array Value} {t : TypeId} {v : Value} (h : Bk w g c t) (e : c[i]? = some v) : w.cell? ⟨g, i, none⟩ = some v := by
  unfold Bk at h; simp only [World.cell?, h]; simpa using e
set_option maxRecDepth 100000 in
set_option maxHeartbeats 8000000 in
theorem say_any : ∀ (d : Nat) (t : PT) {B : Nat} {s : Value} {w : World}, d ≤ 4 → pokB t d = true → KdS B w t s →
    Calls Tryd.prog 26 #[pl t.k t.n s] w fun e w' => e = .returned (.string (baS (textT t))) ∧ Below w.heap.size w w' := by
  intro d
  induction d with
  | zero => intro t B s w _ hp; rw [pok_zero] at hp; cases hp
  | succ d ih =>
    intro t B s w hd hp hs
    obtain ⟨hh, hk⟩ := pok_parts hp
    have hc := cand_in _ (here_cand hh).1
    simp only at hc
    have hn : 0 ≤ t.n ∧ t.n ≤ 9 := by
      have h1 := hc.2.2
      simp only [numLo, numHi] at h1
      constructor <;> (split at h1 <;> split at h1 <;> omega)
    obtain ⟨kn, hkn⟩ := Int.eq_ofNat_of_zero_le (show 0 ≤ t.k by omega)
    have k1 : 1 ≤ kn := by omega
    have k6 : kn ≤ 6 := by omega
    have HK := (show Hid _ from hk)
    have HIH := (show Hid _ from @ih)
    have HP2 : Hid (2 ^ d ≤ 8) := by
      show 2 ^ d ≤ 8
      obtain rfl | rfl | rfl | rfl : d = 0 ∨ d = 1 ∨ d = 2 ∨ d = 3 := by omega
      all_goals decide
    have HTL : Hid (∀ i, i ≤ t.len → (textP t i).length ≤ 5 + i * (7 * 2 ^ d)) := textP_len hp
    have HT0 : Hid (textP t 0 = headB kn t.n) := by show headB t.k t.n = _; rw [hkn]
    have HSL := (show Hid (KdS B w t s) from hs)
    obtain ⟨sa, sc, rfl⟩ := hs.sl
    have htl := PT.len_le t
    rw [hkn]
    have b1 : Bk ((w.alloc (.cells #[.int .i64 kn, .int .i64 t.n, .slice sa t.len sc] 25)).alloc (.cells namA 9)) w.heap.size #[.int .i64 kn, .int .i64 t.n, .slice sa t.len sc] 25 := (Bk.new _ _ rfl).alloc _
    have b2 : Bk ((w.alloc (.cells #[.int .i64 kn, .int .i64 t.n, .slice sa t.len sc] 25)).alloc (.cells namA 9)) (w.heap.size + 1) namA 9 := Bk.new _ _ (by simp)
    have hb0 : Below w.heap.size w ((w.alloc (.cells #[.int .i64 kn, .int .i64 t.n, .slice sa t.len sc] 25)).alloc (.cells namA 9)) := bAlloc (bAlloc (Below.refl _ _) _) _
    obtain ⟨x0, x1, x2⟩ := b1.three'
    have y1 := b2.at (nam_at k1 k6)
    have ik0 : (0 : Int) ≤ (kn : Int) := by omega
    have ik7 : (kn : Int) < 7 := by omega
    clear hs hk hh hc hp ih hkn b2
    go_enter Tryd.func26, Tryd.ntmps26
    go_wp2_with fail
    generalize ((w.alloc (.cells #[.int .i64 kn, .int .i64 t.n, .slice sa t.len sc] 25)).alloc (.cells namA 9)) = W0 at *
    refine (l21Kids_any (kn : Int) _).mono ?_
    rintro e W0 ⟨rfl, rfl⟩
    have HB1 : Hid (∀ V : World, Below W0.heap.size W0 V → Bk V w.heap.size #[.int .i64 kn, .int .i64 t.n, .slice sa t.len sc] 25) := fun V hV => b1.keep hV
    have HLOOP : Hid (∀ (W1 : World), Below W0.heap.size W0 W1 → Below w.heap.size w W1) := fun V hV => bStep hb0 hV
    clear y1 ik0 ik7 b1
    by_cases hh : 0 < numHi (kn : Int)
    · obtain ⟨x, hx⟩ : ∃ x, UInt8.ofNat (48 + t.n.toNat) = x := ⟨_, rfl⟩
      have HX : Hid (UInt8.ofNat (48 + t.n.toNat) = x) := hx
      have HE : Hid (headB kn t.n = nameB kn ++ [x]) := by show headB kn t.n = _; unfold headB; rw [if_pos hh, hx]
      clear hx
      have hn4 : (nameB (kn : Int)).length ≤ 4 := by
        obtain rfl | rfl | rfl | rfl | rfl | rfl : kn = 1 ∨ kn = 2 ∨ kn = 3 ∨ kn = 4 ∨ kn = 5 ∨ kn = 6 := by omega
        all_goals decide
      have z0 : ¬ (9223372036854775807 < (baS (nameB kn)).size + (baS [x]).size) := by rw [baS_size, baS_size]; simp; omega
      have e0 : baS (nameB kn) ++ baS [x] = baS (nameB kn ++ [x]) := baS_app _ _
      go_wp2_with fail
      refine (l6Dec_dig HX.out hn.1 hn.2 _).mono ?_
      rintro e w2 ⟨rfl, hb2⟩
      clear x0 x1 x2
      go_wp2_with fail
      clear z0
      go_loopw [3, 7] (fun o i wr => ∃ k : Nat, k ≤ t.len ∧ i = .int .i64 k ∧ o = .string (baS (textP t k)) ∧ Below W0.heap.size W0 wr) (fun _ i _ => t.len - (intOf i).toNat)
      case atStart => exact ⟨0, by omega, rfl, by rw [HT0.out, HE.out, ← e0], hb2⟩
      case round =>
        obtain ⟨k, hkl, rfl, rfl, hb⟩ := hrel
        obtain ⟨x0, x1, x2⟩ := (HB1.out _ hb).three'
        by_cases hlt : k < t.len
        · have ik : ((k : Int) < (t.len : Int)) := by omega
          obtain ⟨g, off, sx, rfl, hgl, c0, c1, c2, hkid, b2, m2, d2, rfl⟩ := (HSL.out.keep (HLOOP.out _ hb)).at hlt
          have HC6 := (show Hid _ from HIH.out (t.kid k) (by omega) (HK.out k hlt) hkid)
          clear hkid
          have HL1 := HTL.out (k + 1) hlt
          have HL2 : (textP t k).length ≤ 200 ∧ (textT (t.kid k)).length ≤ 200 := by
            have h1 := HP2.out
            have h2 := HTL.out k hkl
            have h3 : k * (7 * 2 ^ d) ≤ 2 * 56 := Nat.mul_le_mul (by omega) (by omega)
            have h4 : (k + 1) * (7 * 2 ^ d) ≤ 2 * 56 := Nat.mul_le_mul (by omega) (by omega)
            simp only [textP, List.length_append, List.length_cons] at HL1
            omega
          have z1 : ¬ (9223372036854775807 < (baS (textP t k)).size + 1) := by rw [baS_size]; omega
          have e1 : baS (textP t k) ++ ({ data := #[32] } : ByteArray) = baS (textP t k ++ [32]) := baS_app _ [32]
          have HL3 := (show Hid _ from HL2)
          clear HL1 HL2
          go_wp2_with fail
          refine Calls.mono HC6.out ?_
          rintro e w7 ⟨rfl, hb7⟩
          have hbw7 := bStep hb hb7
          have z2 : ¬ (9223372036854775807 < (baS (textP t k ++ [32])).size + (baS (textT (t.kid k))).size) := by have := HL3.out; rw [baS_size, baS_size]; simp; omega
          have e2 : baS (textP t k ++ [32]) ++ baS (textT (t.kid k)) = baS (textP t (k + 1)) := by rw [baS_app]; simp [textP]
          clear HC6 c0 c1 c2 z1
          go_wp2_with fail
          go_roundw
          case rel => exact ⟨k + 1, by omega, by go_num, by rw [← e2], hbw7⟩
          case measure => simp [intOf]; omega
        · obtain rfl : k = t.len := by omega
          have e3 := textP_all t
          have hbf := HLOOP.out _ hb
          go_wp2_with fail
          go_ret
          exact ⟨by rw [e3]; rfl, hbf⟩
    · have HE : Hid (headB kn t.n = nameB kn) := by show headB kn t.n = _; unfold headB; rw [if_neg hh, List.append_nil]
      clear x0 x1 x2
      go_wp2_with fail
      go_loopw [3, 7] (fun o i wr => ∃ k : Nat, k ≤ t.len ∧ i = .int .i64 k ∧ o = .string (baS (textP t k)) ∧ Below W0.heap.size W0 wr) (fun _ i _ => t.len - (intOf i).toNat)
      case atStart => exact ⟨0, by omega, rfl, by rw [HT0.out, HE.out], Below.refl _ _⟩
      case round =>
        obtain ⟨k, hkl, rfl, rfl, hb⟩ := hrel
        obtain ⟨x0, x1, x2⟩ := (HB1.out _ hb).three'
        by_cases hlt : k < t.len
        · have ik : ((k : Int) < (t.len : Int)) := by omega
          obtain ⟨g, off, sx, rfl, hgl, c0, c1, c2, hkid, b2, m2, d2, rfl⟩ := (HSL.out.keep (HLOOP.out _ hb)).at hlt
          have HC6 := (show Hid _ from HIH.out (t.kid k) (by omega) (HK.out k hlt) hkid)
          clear hkid
          have HL1 := HTL.out (k + 1) hlt
          have HL2 : (textP t k).length ≤ 200 ∧ (textT (t.kid k)).length ≤ 200 := by
            have h1 := HP2.out
            have h2 := HTL.out k hkl
            have h3 : k * (7 * 2 ^ d) ≤ 2 * 56 := Nat.mul_le_mul (by omega) (by omega)
            have h4 : (k + 1) * (7 * 2 ^ d) ≤ 2 * 56 := Nat.mul_le_mul (by omega) (by omega)
            simp only [textP, List.length_append, List.length_cons] at HL1
            omega
          have z1 : ¬ (9223372036854775807 < (baS (textP t k)).size + 1) := by rw [baS_size]; omega
          have e1 : baS (textP t k) ++ ({ data := #[32] } : ByteArray) = baS (textP t k ++ [32]) := baS_app _ [32]
          have HL3 := (show Hid _ from HL2)
          clear HL1 HL2
          go_wp2_with fail
          refine Calls.mono HC6.out ?_
          rintro e w7 ⟨rfl, hb7⟩
          have hbw7 := bStep hb hb7
          have z2 : ¬ (9223372036854775807 < (baS (textP t k ++ [32])).size + (baS (textT (t.kid k))).size) := by have := HL3.out; rw [baS_size, baS_size]; simp; omega
          have e2 : baS (textP t k ++ [32]) ++ baS (textT (t.kid k)) = baS (textP t (k + 1)) := by rw [baS_app]; simp [textP]
          clear HC6 c0 c1 c2 z1
          go_wp2_with fail
          go_roundw
          case rel => exact ⟨k + 1, by omega, by go_num, by rw [← e2], hbw7⟩
          case measure => simp [intOf]; omega
        · obtain rfl : k = t.len := by omega
          have e3 := textP_all t
          have hbf := HLOOP.out _ hb
          go_wp2_with fail
          go_ret
          exact ⟨by rw [e3]; rfl, hbf⟩
end Go.Proofs.YtfofchgcbdbikaaDoor
