/- What the drawing of rows answers: contracts. -/
import Derived.Test.YtbmdfmboabfceaaDr2
import Derived.Test.YtbmdfmboabfceaaBa12
namespace Go.Proofs.Ytbmdfmboabfceaa
open Go.RowKit

theorem sm_snoc {l : List Rw} {r : Rw} (h : ∀ x ∈ l, smR x) (hr : smR r) : ∀ x ∈ l ++ [r], smR x := fun x hx => by
  rcases List.mem_append.1 hx with hx | hx
  · exact h x hx
  · rw [List.mem_singleton.1 hx]; exact hr
theorem sm_other {K V A B D K' V' A' B' D' : Int} (h : smR (((K, V), (A, B)), D)) (h' : smR (((K', V'), (A', B')), D')) : smR (((K', V'), (A, B)), D) ∧ smR (((K', V'), (A, B)), -D') := by
  obtain ⟨h1, h2, h3⟩ := h
  obtain ⟨h4, h5, h6⟩ := h'
  simp only [rwOkB, okB, inB, Bool.and_eq_true, decide_eq_true_eq] at h1 h4
  simp only at h2 h3 h5 h6
  exact ⟨smR_mk (by omega) (by omega) (by omega) (by omega) (by omega) (by omega) (by omega) (by omega) (by omega) (by omega), smR_mk (by omega) (by omega) (by omega) (by omega) (by omega) (by omega) (by omega) (by omega) (by omega) (by omega)⟩
theorem own_set {t : TypeId} {k : Nat} {w : World} {B : Nat} {v : Value} {n : Nat} {xs : List Value} {p : Addr} (h : w.ownsRow B t k v n xs) (hk : ∀ b, v.ownBlock = some b → b ≠ p.block) (u : Value) : (w.setCell p u).ownsRow B t k v n xs :=
  ownK_at h fun b e => Below.heap_setCell _ _ _ _ (hk b e)
set_option maxRecDepth 100000 in
set_option maxHeartbeats 8000000 in
theorem l71Rows_any {B : Nat} {w : World} {g : Nat} {v : Value} {n : Nat} {p : Int} (h : Rd B w g v n p) (hp : 0 ≤ p) (hp' : p ≤ 700000) (most : Int) (hm0 : 0 ≤ most) (hm1 : most ≤ 10) :
    Calls Try.prog 151 #[.pointer (some ⟨g, 0, none⟩), .int .i64 most] w fun e w' => ∃ (o : Value) (l : List Rw), e = .returned o ∧ (l.length : Int) ≤ most ∧ (∀ r ∈ l, smR r) ∧ OwnR w' w.heap.size o l ∧ (∃ p' : Int, p ≤ p' ∧ p' ≤ p + 600 ∧ Rd B w' g v n p') ∧ Bx g w w' := by
  have hg := h.blk.lt
  have hh := h.here
  have hs := h.size
  have h0 := h.keepb (bAlloc (Below.refl _ _) (.cells #[] 33))
  have x0 : Bx g w (w.alloc (.cells #[] 33)) := (Bx.refl _ _).alloc _
  have o0 := ownR_empty w rfl
  go_enter Try.func151, Try.ntmps151
  go_wp2_with fail
  refine (pick_any h0 hp (by omega) _ (by omega) (by omega)).mono ?_
  rintro e w1 ⟨k, rfl, hk0, hk1, hr1, hx1⟩
  have o1 : OwnR w1 w.heap.size _ [] := own_keepx o0 hx1 hg
  have x1 := x0.trans hx1
  clear o0 x0 h0 hx1
  go_wp2_with fail
  go_loopw [5, 6] (fun o i wr => ∃ (m : Nat) (l : List Rw) (p' : Int), (m : Int) ≤ most ∧ i = .int .i64 m ∧ (l.length : Int) + m ≤ most ∧ (∀ r ∈ l, smR r) ∧ OwnR wr w.heap.size o l ∧ p ≤ p' ∧ p' ≤ p + 1 + 52 * l.length ∧ Rd B wr g v n p' ∧ Bx g w wr) (fun _ i _ => (intOf i).toNat)
  case atStart =>
    obtain ⟨m, rfl⟩ := Int.eq_ofNat_of_zero_le hk0
    exact ⟨m, [], p + 1, by omega, rfl, by simp; omega, by simp, o1, by omega, by simp, hr1, x1⟩
  case round =>
    clear o1 x1 hr1
    obtain ⟨m, l, p', hm, rfl, hlm, hsm, hown, hpp, hpq, hr, hx⟩ := hrel
    have HO : Hid (OwnR wr w.heap.size u5 l) := hown
    have HQ : Hid (p' ≤ p + 1 + 52 * l.length) := hpq
    have HS : Hid (∀ r ∈ l, smR r) := hsm
    have hpr : p' ≤ p + 521 := by omega
    clear hsm hpq
    by_cases hlt : 0 < m
    · have R0 : Rs wr u5 l := OwnR.rs hown (by omega)
      obtain ⟨a5, cap5, rfl, hc5, hm5, hn5, hcells5⟩ := Rs.open R0
      unfold maxLen at hm5
      have HC := (show Hid _ from hcells5)
      clear hcells5 R0 hown hn5
      go_wp2_with fail
      refine (l71Row_any hr (by omega) (by omega)).mono ?_
      rintro e w2 ⟨K, V, A, B1, D, rfl, hsr, ⟨p2, hp1, hp2, hr2⟩, hx2⟩
      have own2 : OwnR w2 w.heap.size (.slice a5 l.length cap5) l := own_keepx HO.out hx2 hg
      have x2 := hx.trans hx2
      have hz2 := x2.size
      have HB : Hid (∀ b, (Value.slice a5 l.length cap5).ownBlock = some b → b ≠ w2.heap.size) := fun b e => by have := ownK_lt own2 b e; omega
      have HSR : Hid (smR (((K, V), (A, B1)), D)) := hsr
      have hr3 := hr2.keepb (bAlloc (Below.refl _ _) (.cells #[.int .i64 K, .int .i64 V, .int .i64 A, .int .i64 B1, .int .i64 D] 33))
      have b3 : Bk (w2.alloc (.cells #[.int .i64 K, .int .i64 V, .int .i64 A, .int .i64 B1, .int .i64 D] 33)) w2.heap.size #[.int .i64 K, .int .i64 V, .int .i64 A, .int .i64 B1, .int .i64 D] 33 := Bk.new _ _ rfl
      have own3 : OwnR (w2.alloc (.cells #[.int .i64 K, .int .i64 V, .int .i64 A, .int .i64 B1, .int .i64 D] 33)) w.heap.size (.slice a5 l.length cap5) l := own2.alloc _
      have x3 := x2.alloc (.cells #[.int .i64 K, .int .i64 V, .int .i64 A, .int .i64 B1, .int .i64 D] 33)
      have hz3 : w2.heap.size < (w2.alloc (.cells #[.int .i64 K, .int .i64 V, .int .i64 A, .int .i64 B1, .int .i64 D] 33)).heap.size := by simp
      clear hsr hr hx hx2 HO own2 hr2
      go_upto_region 6 with fail
      generalize (w2.alloc (.cells #[.int .i64 K, .int .i64 V, .int .i64 A, .int .i64 B1, .int .i64 D] 33)) = w3 at *
      by_cases hpos : 0 < l.length
      · go_wp2_with fail
        refine (pick_any hr3 (by omega) (by omega) _ (by omega) (by omega)).mono ?_
        rintro e w4 ⟨k3, rfl, hk30, hk31, hr4, hx4⟩
        have own4 : OwnR w4 w.heap.size (.slice a5 l.length cap5) l := own_keepx own3 hx4 hg
        have b4 := b3.keepx hx4 (by omega)
        have x4 := x3.trans hx4
        have hz4 := hx4.size
        clear own3 b3 x3 hr3 hx4
        by_cases hk3 : k3 = 0
        · subst hk3
          go_wp2_with fail
          refine (pick_any hr4 (by omega) (by omega) _ (by omega) (by omega)).mono ?_
          rintro e w5 ⟨j0, rfl, hj0, hj1, hr5, hx5⟩
          obtain ⟨j, rfl⟩ := Int.eq_ofNat_of_zero_le hj0
          have own5 : OwnR w5 w.heap.size (.slice a5 l.length cap5) l := own_keepx own4 hx5 hg
          have b5 := b4.keepx hx5 (by omega)
          have x5 := x4.trans hx5
          have hz5 := hx5.size
          have hjl : j < l.length := by omega
          have R5 : Rs w5 (.slice a5 l.length cap5) l := OwnR.rs own5 (by omega)
          obtain ⟨a5', cap5', ee, _, _, _, hcells5⟩ := Rs.open R5
          simp only [Value.slice.injEq, true_and] at ee
          obtain ⟨rfl, rfl⟩ := ee
          obtain ⟨g5, off5, K2, V2, A2, B2, D2, rfl, hg5, hr', c0, c1, c2, c3, c4⟩ := hcells5 j hjl
          have hsr2 := HS.out _ (List.mem_of_getElem? hr')
          have HS1 : Hid (smR (((K2, V2), (A, B1)), D)) := (sm_other HSR.out hsr2).1
          have HS2 : Hid (smR (((K2, V2), (A, B1)), -D2)) := (sm_other HSR.out hsr2).2
          have hD1 : -3 ≤ D2 := hsr2.2.1
          have hD2 : D2 ≤ 3 := hsr2.2.2
          have hr6 := hr5.keepb (bAlloc (Below.refl _ _) (.cells #[.int .i64 K2, .int .i64 V2, .int .i64 A2, .int .i64 B2, .int .i64 D2] 33))
          have y6 : Bk (w5.alloc (.cells #[.int .i64 K2, .int .i64 V2, .int .i64 A2, .int .i64 B2, .int .i64 D2] 33)) w5.heap.size #[.int .i64 K2, .int .i64 V2, .int .i64 A2, .int .i64 B2, .int .i64 D2] 33 := Bk.new _ _ rfl
          have b6 := b5.alloc (.cells #[.int .i64 K2, .int .i64 V2, .int .i64 A2, .int .i64 B2, .int .i64 D2] 33)
          have own6 : OwnR (w5.alloc (.cells #[.int .i64 K2, .int .i64 V2, .int .i64 A2, .int .i64 B2, .int .i64 D2] 33)) w.heap.size (.slice (some ⟨g5, off5, none⟩) l.length cap5) l := own5.alloc _
          have x6 := x5.alloc (.cells #[.int .i64 K2, .int .i64 V2, .int .i64 A2, .int .i64 B2, .int .i64 D2] 33)
          clear hcells5 R5 own4 own5 b4 b5 x4 x5 hx5 hr4 hr5 hr' hsr2
          go_upto_region 8 with fail
          clear c0 c1 c2 c3 c4
          generalize (w5.alloc (.cells #[.int .i64 K2, .int .i64 V2, .int .i64 A2, .int .i64 B2, .int .i64 D2] 33)) = w6 at *
          obtain ⟨y0, y1, y2, y3, y4⟩ := y6.five
          obtain ⟨q0, q1, q2, q3, q4⟩ := b6.five
          have f0 := b6.free 0
          have b7 := b6.set 0 (.int .i64 K2)
          have y7 := y6.apart (p := ⟨w2.heap.size, 0, none⟩) (by simp; omega) (.int .i64 K2)
          have hr7 := hr6.apart (q := ⟨w2.heap.size, 0, none⟩) (by simp; omega) (by simp; omega) (.int .i64 K2)
          have x7 := x6.setNew (p := ⟨w2.heap.size, 0, none⟩) (by simp; omega) (.int .i64 K2)
          have own7 : OwnR (w6.setCell ⟨w2.heap.size, 0, none⟩ (.int .i64 K2)) w.heap.size (.slice (some ⟨g5, off5, none⟩) l.length cap5) l := own_set own6 HB.out _
          go_upto_region 9 with fail
          clear y0 y1 y2 y3 y4 q0 q1 q2 q3 q4 f0 b6 y6 hr6 x6 own6
          generalize (w6.setCell ⟨w2.heap.size, 0, none⟩ (.int .i64 K2)) = w7 at *
          obtain ⟨y0, y1, y2, y3, y4⟩ := y7.five
          obtain ⟨q0, q1, q2, q3, q4⟩ := Bk.five b7
          have f1 := b7.free 1
          have b8 := b7.set 1 (.int .i64 V2)
          have y8 := y7.apart (p := ⟨w2.heap.size, 1, none⟩) (by simp; omega) (.int .i64 V2)
          have hr8 := hr7.apart (q := ⟨w2.heap.size, 1, none⟩) (by simp; omega) (by simp; omega) (.int .i64 V2)
          have x8 := x7.setNew (p := ⟨w2.heap.size, 1, none⟩) (by simp; omega) (.int .i64 V2)
          have own8 : OwnR (w7.setCell ⟨w2.heap.size, 1, none⟩ (.int .i64 V2)) w.heap.size (.slice (some ⟨g5, off5, none⟩) l.length cap5) l := own_set own7 HB.out _
          go_upto_region 10 with fail
          clear y0 y1 y2 y3 y4 q0 q1 q2 q3 q4 f1 b7 y7 hr7 x7 own7
          generalize (w7.setCell ⟨w2.heap.size, 1, none⟩ (.int .i64 V2)) = w8 at *
          have b8' : Bk w8 w2.heap.size #[.int .i64 K2, .int .i64 V2, .int .i64 A, .int .i64 B1, .int .i64 D] 33 := b8
          clear b8
          go_wp2_with fail
          refine (pick_any hr8 (by omega) (by omega) _ (by omega) (by omega)).mono ?_
          rintro e wa ⟨k4, rfl, hk40, hk41, hra, hxa⟩
          have owna : OwnR wa w.heap.size (.slice (some ⟨g5, off5, none⟩) l.length cap5) l := own_keepx own8 hxa hg
          have ba := b8'.keepx hxa (by omega)
          have ya := y8.keepx hxa (by omega)
          have xa := x8.trans hxa
          clear own8 b8' y8 x8 hr8 hxa
          by_cases hk4 : k4 = 0
          · subst hk4
            obtain ⟨y0, y1, y2, y3, y4⟩ := ya.five
            obtain ⟨q0, q1, q2, q3, q4⟩ := ba.five
            have f4 := ba.free 4
            have bb := ba.set 4 (.int .i64 (-D2))
            have hrb := hra.apart (q := ⟨w2.heap.size, 4, none⟩) (by simp; omega) (by simp; omega) (.int .i64 (-D2))
            have xb := xa.setNew (p := ⟨w2.heap.size, 4, none⟩) (by simp; omega) (.int .i64 (-D2))
            have ownb : OwnR (wa.setCell ⟨w2.heap.size, 4, none⟩ (.int .i64 (-D2))) w.heap.size (.slice (some ⟨g5, off5, none⟩) l.length cap5) l := own_set owna HB.out _
            go_upto_region 12 with fail
            clear y0 y1 y2 y3 y4 q0 q1 q2 q3 q4 f4 ba ya hra xa owna
            generalize (wa.setCell ⟨w2.heap.size, 4, none⟩ (.int .i64 (-D2))) = wb at *
            have bb' : Bk wb w2.heap.size #[.int .i64 K2, .int .i64 V2, .int .i64 A, .int .i64 B1, .int .i64 (-D2)] 33 := bb
            clear bb
            obtain ⟨q0, q1, q2, q3, q4⟩ := bb'.five
            have hW9 := xb.size
            go_wp2_with (at_builtin; refine appR _ rfl _ _ rfl w.heap.size _ l rfl (ownb.alloc _) _ K2 V2 A B1 (-D2) rfl (Bk.new _ _ rfl) (by omega) (by simp; omega) ?_; intro g9 cap9 w9 own9 hgrow hlg)
            have hr9 : Rd B w9 g v n (p2 + 1 + 1 + 1) := (hrb.keepb (bAlloc (Below.refl _ _) _)).grown hgrow (fun k e => by have := ownK_base ownb k e; omega)
            have hx9 : Bx g w w9 := (xb.alloc _).grown hgrow (ownK_base ownb)
            exact ⟨⟨m - 1, l ++ [(((K2, V2), (A, B1)), (-D2))], (p2 + 1 + 1 + 1), by omega, by congr 1; omega, by simp; omega, sm_snoc HS.out HS2.out, own9, by omega, by have := HQ.out; simp; omega, hr9, hx9⟩, by simp [intOf]; omega⟩
          · have hkb4 : (k4 == 0) = false := by simpa using hk4
            obtain ⟨q0, q1, q2, q3, q4⟩ := ba.five
            have hW9 := xa.size
            go_wp2_with (at_builtin; refine appR _ rfl _ _ rfl w.heap.size _ l rfl (owna.alloc _) _ K2 V2 A B1 D rfl (Bk.new _ _ rfl) (by omega) (by simp; omega) ?_; intro g9 cap9 w9 own9 hgrow hlg)
            have hr9 : Rd B w9 g v n (p2 + 1 + 1 + 1) := (hra.keepb (bAlloc (Below.refl _ _) _)).grown hgrow (fun k e => by have := ownK_base owna k e; omega)
            have hx9 : Bx g w w9 := (xa.alloc _).grown hgrow (ownK_base owna)
            exact ⟨⟨m - 1, l ++ [(((K2, V2), (A, B1)), D)], (p2 + 1 + 1 + 1), by omega, by congr 1; omega, by simp; omega, sm_snoc HS.out HS1.out, own9, by omega, by have := HQ.out; simp; omega, hr9, hx9⟩, by simp [intOf]; omega⟩
        · have hkb3 : (k3 == 0) = false := by simpa using hk3
          obtain ⟨q0, q1, q2, q3, q4⟩ := b4.five
          have hW9 := x4.size
          go_wp2_with (at_builtin; refine appR _ rfl _ _ rfl w.heap.size _ l rfl (own4.alloc _) _ K V A B1 D rfl (Bk.new _ _ rfl) (by omega) (by simp; omega) ?_; intro g9 cap9 w9 own9 hgrow hlg)
          have hr9 : Rd B w9 g v n (p2 + 1) := (hr4.keepb (bAlloc (Below.refl _ _) _)).grown hgrow (fun k e => by have := ownK_base own4 k e; omega)
          have hx9 : Bx g w w9 := (x4.alloc _).grown hgrow (ownK_base own4)
          exact ⟨⟨m - 1, l ++ [(((K, V), (A, B1)), D)], (p2 + 1), by omega, by congr 1; omega, by simp; omega, sm_snoc HS.out HSR.out, own9, by omega, by have := HQ.out; simp; omega, hr9, hx9⟩, by simp [intOf]; omega⟩
      · obtain rfl : l = [] := List.eq_nil_of_length_eq_zero (by omega)
        simp only [List.length_nil] at *
        obtain ⟨q0, q1, q2, q3, q4⟩ := b3.five
        have hW9 := x3.size
        go_wp2_with (at_builtin; refine appR _ rfl _ _ rfl w.heap.size _ [] rfl (own3.alloc _) _ K V A B1 D rfl (Bk.new _ _ rfl) (by simp) (by simp; omega) ?_; intro g9 cap9 w9 own9 hgrow hlg)
        have hr9 : Rd B w9 g v n p2 := (hr3.keepb (bAlloc (Below.refl _ _) _)).grown hgrow (fun k e => by have := ownK_base own3 k e; omega)
        have hx9 : Bx g w w9 := (x3.alloc _).grown hgrow (ownK_base own3)
        exact ⟨⟨m - 1, [] ++ [(((K, V), (A, B1)), D)], p2, by omega, by congr 1; omega, by simp; omega, sm_snoc HS.out HSR.out, own9, by omega, by have := HQ.out; simp; omega, hr9, hx9⟩, by simp [intOf]; omega⟩
    · obtain rfl : m = 0 := by omega
      have := HQ.out
      go_wp2_with fail
      go_ret
      exact ⟨_, l, rfl, by omega, HS.out, HO.out, ⟨p', hpp, by omega, hr⟩, hx⟩
end Go.Proofs.Ytbmdfmboabfceaa
