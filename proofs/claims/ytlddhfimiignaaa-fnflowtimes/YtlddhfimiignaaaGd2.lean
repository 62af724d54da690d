/- What the drawing of rows answers: contracts. -/
import Derived.Test.YtlddhfimiignaaaGd1
import Derived.Test.YtlddhfimiignaaaGb4
import Derived.Test.YtlddhfimiignaaaGs3
import Derived.Test.YtlddhfimiignaaaGs7
/-! What the drawing of rows answers: contracts. -/
namespace Go.Proofs.Ytlddhfimiignaaa
open Go.RowKit

theorem sm_snoc {l : List Rw} {r : Rw} (h : ∀ x ∈ l, smR x) (hr : smR r) : ∀ x ∈ l ++ [r], smR x := fun x hx => by
  rcases List.mem_append.1 hx with hx | hx
  · exact h x hx
  · rw [List.mem_singleton.1 hx]; exact hr
theorem sm_other {K V A B D K' V' A' B' D' : Int} (h : smR (((K, V), (A, B)), D)) (h' : smR (((K', V'), (A', B')), D')) : smR (((K', V'), (A, B)), D) ∧ smR (((K', V'), (A, B)), -D') := by
  obtain ⟨h1, h2, h3⟩ := h
  obtain ⟨h4, h5, h6⟩ := h'
  simp only [rwOkB, okB, inB, Bool.and_eq_true, decide_eq_true_eq] at h1 h4
  simp only at h2 h3 h5 h6
  exact ⟨smR_mk (by omega) (by omega) (by omega) (by omega) (by omega) (by omega) (by omega) (by omega) (by omega) (by omega), smR_mk (by omega) (by omega) (by omega) (by omega) (by omega) (by omega) (by omega) (by omega) (by omega) (by omega)⟩
theorem own_set {t : TypeId} {k : Nat} {w : World} {B : Nat} {v : Value} {n : Nat} {xs : List Value} {p : Addr} (h : w.ownsRow B t k v n xs) (hk : ∀ b, v.ownBlock = some b → b ≠ p.block) (u : Value) : (w.setCell p u).ownsRow B t k v n xs :=
  ownK_at h fun b e => Below.heap_setCell _ _ _ _ (hk b e)
set_option maxRecDepth 100000 in
set_option maxHeartbeats 8000000 in
theorem l71Rows_any {B : Nat} {w : World} {g : Nat} {v : Value} {n : Nat} {p : Int} (h : Rd B w g v n p) (hp : 0 ≤ p) (hp' : p ≤ 700000) (most : Int) (hm0 : 0 ≤ most) (hm1 : most ≤ 10) :
    Calls Try.prog 100 #[.pointer (some ⟨g, 0, none⟩), .int .i64 most] w fun e w' => ∃ (o : Value) (l : List Rw), e = .returned o ∧ (l.length : Int) ≤ most ∧ (∀ r ∈ l, smR r) ∧ OwnR w' w.heap.size o l ∧ (∃ p' : Int, p ≤ p' ∧ p' ≤ p + 600 ∧ Rd B w' g v n p') ∧ Bx g w w' := by
  have hg := h.blk.lt
  have hh := h.here
  have hs := h.size
  have h0 := h.keepb (bAlloc (Below.refl _ _) (.cells #[] 55))
  have x0 : Bx g w (w.alloc (.cells #[] 55)) := (Bx.refl _ _).alloc _
  have o0 := ownR_empty w rfl
  go_enter Try.func100, Try.ntmps100
  go_wp2_with fail
  refine (pick_any h0 hp (by omega) _ (by omega) (by omega)).mono ?_
  rintro e w1 ⟨k, rfl, hk0, hk1, hr1, hx1⟩
  have o1 : OwnR w1 w.heap.size _ [] := own_keepx o0 hx1 hg
  have x1 := x0.trans hx1
  clear o0 x0 h0 hx1
  go_wp2_with fail
  go_loopw [5, 6] (fun o i wr => ∃ (m : Nat) (l : List Rw) (p' : Int), (m : Int) ≤ most ∧ i = .int .i64 m ∧ (l.length : Int) + m ≤ most ∧ (∀ r ∈ l, smR r) ∧ OwnR wr w.heap.size o l ∧ p ≤ p' ∧ p' ≤ p + 1 + 52 * l.length ∧ Rd B wr g v n p' ∧ Bx g w wr) (fun _ i _ => (intOf i).toNat)
  case atStart =>
    obtain ⟨m, rfl⟩ := Int.eq_ofNat_of_zero_le hk0
    exact ⟨m, [], p + 1, by omega, rfl, by simp; omega, by simp, o1, by omega, by simp, hr1, x1⟩
  case round =>
    clear o1 x1 hr1
    obtain ⟨m, l, p', hm, rfl, hlm, hsm, hown, hpp, hpq, hr, hx⟩ := hrel
    have HO : Hid (OwnR wr w.heap.size u5 l) := hown
    have HQ : Hid (p' ≤ p + 1 + 52 * l.length) := hpq
    have HS : Hid (∀ r ∈ l, smR r) := hsm
    have hpr : p' ≤ p + 521 := by omega
    clear hsm hpq
    by_cases hlt : 0 < m
    · have R0 : Rs wr u5 l := OwnR.rs hown (by omega)
      obtain ⟨a5, cap5, rfl, hc5, hm5, hn5, hcells5⟩ := Rs.open R0
      unfold maxLen at hm5
      have HC := (show Hid _ from hcells5)
      clear hcells5 R0 hown hn5
      go_wp2_with fail
      refine (l71Row_any hr (by omega) (by omega)).mono ?_
      rintro e w2 ⟨K, V, A, B1, D, rfl, hsr, ⟨p2, hp1, hp2, hr2⟩, hx2⟩
      have own2 : OwnR w2 w.heap.size (.slice a5 l.length cap5) l := own_keepx HO.out hx2 hg
      have x2 := hx.trans hx2
      have hz2 := x2.size
      have HB : Hid (∀ b, (Value.slice a5 l.length cap5).ownBlock = some b → b ≠ w2.heap.size) := fun b e => by have := ownK_lt own2 b e; omega
      have HSR : Hid (smR (((K, V), (A, B1)), D)) := hsr
      have hr3 := hr2.keepb (bAlloc (Below.refl _ _) (.cells #[.int .i64 K, .int .i64 V, .int .i64 A, .int .i64 B1, .int .i64 D] 55))
      have b3 : Bk (w2.alloc (.cells #[.int .i64 K, .int .i64 V, .int .i64 A, .int .i64 B1, .int .i64 D] 55)) w2.heap.size #[.int .i64 K, .int .i64 V, .int .i64 A, .int .i64 B1, .int .i64 D] 55 := Bk.new _ _ rfl
      have own3 : OwnR (w2.alloc (.cells #[.int .i64 K, .int .i64 V, .int .i64 A, .int .i64 B1, .int .i64 D] 55)) w.heap.size (.slice a5 l.length cap5) l := own2.alloc _
      have x3 := x2.alloc (.cells #[.int .i64 K, .int .i64 V, .int .i64 A, .int .i64 B1, .int .i64 D] 55)
      have hz3 : w2.heap.size < (w2.alloc (.cells #[.int .i64 K, .int .i64 V, .int .i64 A, .int .i64 B1, .int .i64 D] 55)).heap.size := by simp
      clear hsr hr hx hx2 HO own2 hr2
      go_upto_region 6 with fail
      generalize (w2.alloc (.cells #[.int .i64 K, .int .i64 V, .int .i64 A, .int .i64 B1, .int .i64 D] 55)) = w3 at *
      by_cases hpos : 0 < l.length
      · go_wp2_with fail
        refine (pick_any hr3 (by omega) (by omega) _ (by omega) (by omega)).mono ?_
        rintro e w4 ⟨k3, rfl, hk30, hk31, hr4, hx4⟩
        have own4 : OwnR w4 w.heap.size (.slice a5 l.length cap5) l := own_keepx own3 hx4 hg
        have b4 := b3.keepx hx4 (by omega)
        have x4 := x3.trans hx4
        have hz4 := hx4.size
        clear own3 b3 x3 hr3 hx4
        by_cases hk3 : k3 = 0
        · subst hk3
          go_wp2_with fail
          refine (pick_any hr4 (by omega) (by omega) _ (by omega) (by omega)).mono ?_
          rintro e w5 ⟨j0, rfl, hj0, hj1, hr5, hx5⟩
          obtain ⟨j, rfl⟩ := Int.eq_ofNat_of_zero_le hj0
          have own5 : OwnR w5 w.heap.size (.slice a5 l.length cap5) l := own_keepx own4 hx5 hg
          have b5 := b4.keepx hx5 (by omega)
          have x5 := x4.trans hx5
          have hz5 := hx5.size
          have hjl : j < l.length := by omega
          have R5 : Rs w5 (.slice a5 l.length cap5) l := OwnR.rs own5 (by omega)
          obtain ⟨a5', cap5', ee, _, _, _, hcells5⟩ := Rs.open R5
          simp only [Value.slice.injEq, true_and] at ee
          obtain ⟨rfl, rfl⟩ := ee
          obtain ⟨g5, off5, K2, V2, A2, B2, D2, rfl, hg5, hr', c0, c1, c2, c3, c4⟩ := hcells5 j hjl
          have hsr2 := HS.out _ (List.mem_of_getElem? hr')
          have HS1 : Hid (smR (((K2, V2), (A, B1)), D)) := (sm_other HSR.out hsr2).1
          have HS2 : Hid (smR (((K2, V2), (A, B1)), -D2)) := (sm_other HSR.out hsr2).2
          have hD1 : -3 ≤ D2 := hsr2.2.1
          have hD2 : D2 ≤ 3 := hsr2.2.2
          have hr6 := hr5.keepb (bAlloc (Below.refl _ _) (.cells #[.int .i64 K2, .int .i64 V2, .int .i64 A2, .int .i64 B2, .int .i64 D2] 55))
          have y6 : Bk (w5.alloc (.cells #[.int .i64 K2, .int .i64 V2, .int .i64 A2, .int .i64 B2, .int .i64 D2] 55)) w5.heap.size #[.int .i64 K2, .int .i64 V2, .int .i64 A2, .int .i64 B2, .int .i64 D2] 55 := Bk.new _ _ rfl
          have b6 := b5.alloc (.cells #[.int .i64 K2, .int .i64 V2, .int .i64 A2, .int .i64 B2, .int .i64 D2] 55)
          have own6 : OwnR (w5.alloc (.cells #[.int .i64 K2, .int .i64 V2, .int .i64 A2, .int .i64 B2, .int .i64 D2] 55)) w.heap.size (.slice (some ⟨g5, off5, none⟩) l.length cap5) l := own5.alloc _
          have x6 := x5.alloc (.cells #[.int .i64 K2, .int .i64 V2, .int .i64 A2, .int .i64 B2, .int .i64 D2] 55)
          clear hcells5 R5 own4 own5 b4 b5 x4 x5 hx5 hr4 hr5 hr' hsr2
          go_upto_region 8 with fail
          clear c0 c1 c2 c3 c4
          generalize (w5.alloc (.cells #[.int .i64 K2, .int .i64 V2, .int .i64 A2, .int .i64 B2, .int .i64 D2] 55)) = w6 at *
          obtain ⟨y0, y1, y2, y3, y4⟩ := y6.five
          obtain ⟨q0, q1, q2, q3, q4⟩ := b6.five
          have f0 := b6.free 0
          have b7 := b6.set 0 (.int .i64 K2)
          have y7 := y6.apart (p := ⟨w2.heap.size, 0, none⟩) (by simp; omega) (.int .i64 K2)
          have hr7 := hr6.apart (q := ⟨w2.heap.size, 0, none⟩) (by simp; omega) (by simp; omega) (.int .i64 K2)
          have x7 := x6.setNew (p := ⟨w2.heap.size, 0, none⟩) (by simp; omega) (.int .i64 K2)
          have own7 : OwnR (w6.setCell ⟨w2.heap.size, 0, none⟩ (.int .i64 K2)) w.heap.size (.slice (some ⟨g5, off5, none⟩) l.length cap5) l := own_set own6 HB.out _
          go_upto_region 9 with fail
          clear y0 y1 y2 y3 y4 q0 q1 q2 q3 q4 f0 b6 y6 hr6 x6 own6
          generalize (w6.setCell ⟨w2.heap.size, 0, none⟩ (.int .i64 K2)) = w7 at *
          obtain ⟨y0, y1, y2, y3, y4⟩ := y7.five
          obtain ⟨q0, q1, q2, q3, q4⟩ := Bk.five b7
          have f1 := b7.free 1
          have b8 := b7.set 1 (.int .i64 V2)
          have y8 := y7.apart (p := ⟨w2.heap.size, 1, none⟩) (by simp; omega) (.int .i64 V2)
          have hr8 := hr7.apart (q := ⟨w2.heap.size, 1, none⟩) (by simp; omega) (by simp; omega) (.int .i64 V2)
          have x8 := x7.setNew (p := ⟨w2.heap.size, 1, none⟩) (by simp; omega) (.int .i64 V2)
          have own8 : OwnR (w7.setCell ⟨w2.heap.size, 1, none⟩ (.int .i64 V2)) w.heap.size (.slice (some ⟨g5, off5, none⟩) l.length cap5) l := own_set own7 HB.out _
          go_upto_region 10 with fail
          clear y0 y1 y2 y3 y4 q0 q1 q2 q3 q4 f1 b7 y7 hr7 x7 own7
          generalize (w7.setCell ⟨w2.heap.size, 1, none⟩ (.int .i64 V2)) = w8 at *
          have b8' : Bk w8 w2.heap.size #[.int .i64 K2, .int .i64 V2, .int .i64 A, .int .i64 B1, .int .i64 D] 55 := b8
          clear b8
          go_wp2_with fail
          refine (pick_any hr8 (by omega) (by omega) _ (by omega) (by omega)).mono ?_
          rintro e wa ⟨k4, rfl, hk40, hk41, hra, hxa⟩
          have owna : OwnR wa w.heap.size (.slice (some ⟨g5, off5, none⟩) l.length cap5) l := own_keepx own8 hxa hg
          have ba := b8'.keepx hxa (by omega)
          have ya := y8.keepx hxa (by omega)
          have xa := x8.trans hxa
          clear own8 b8' y8 x8 hr8 hxa
          by_cases hk4 : k4 = 0
          · subst hk4
            obtain ⟨y0, y1, y2, y3, y4⟩ := ya.five
            obtain ⟨q0, q1, q2, q3, q4⟩ := ba.five
            have f4 := ba.free 4
            have bb := ba.set 4 (.int .i64 (-D2))
            have hrb := hra.apart (q := ⟨w2.heap.size, 4, none⟩) (by simp; omega) (by simp; omega) (.int .i64 (-D2))
            have xb := xa.setNew (p := ⟨w2.heap.size, 4, none⟩) (by simp; omega) (.int .i64 (-D2))
            have ownb : OwnR (wa.setCell ⟨w2.heap.size, 4, none⟩ (.int .i64 (-D2))) w.heap.size (.slice (some ⟨g5, off5, none⟩) l.length cap5) l := own_set owna HB.out _
            go_upto_region 12 with fail
            clear y0 y1 y2 y3 y4 q0 q1 q2 q3 q4 f4 ba ya hra xa owna
            generalize (wa.setCell ⟨w2.heap.size, 4, none⟩ (.int .i64 (-D2))) = wb at *
            have bb' : Bk wb w2.heap.size #[.int .i64 K2, .int .i64 V2, .int .i64 A, .int .i64 B1, .int .i64 (-D2)] 55 := bb
            clear bb
            obtain ⟨q0, q1, q2, q3, q4⟩ := bb'.five
            have hW9 := xb.size
            go_wp2_with (at_builtin; refine appR _ rfl _ _ rfl w.heap.size _ l rfl (ownb.alloc _) _ K2 V2 A B1 (-D2) rfl (Bk.new _ _ rfl) (by omega) (by simp; omega) ?_; intro g9 cap9 w9 own9 hgrow hlg)
            have hr9 : Rd B w9 g v n (p2 + 1 + 1 + 1) := (hrb.keepb (bAlloc (Below.refl _ _) _)).grown hgrow (fun k e => by have := ownK_base ownb k e; omega)
            have hx9 : Bx g w w9 := (xb.alloc _).grown hgrow (ownK_base ownb)
            exact ⟨⟨m - 1, l ++ [(((K2, V2), (A, B1)), (-D2))], (p2 + 1 + 1 + 1), by omega, by congr 1; omega, by simp; omega, sm_snoc HS.out HS2.out, own9, by omega, by have := HQ.out; simp; omega, hr9, hx9⟩, by simp [intOf]; omega⟩
          · have hkb4 : (k4 == 0) = false := by simpa using hk4
            obtain ⟨q0, q1, q2, q3, q4⟩ := ba.five
            have hW9 := xa.size
            go_wp2_with (at_builtin; refine appR _ rfl _ _ rfl w.heap.size _ l rfl (owna.alloc _) _ K2 V2 A B1 D rfl (Bk.new _ _ rfl) (by omega) (by simp; omega) ?_; intro g9 cap9 w9 own9 hgrow hlg)
            have hr9 : Rd B w9 g v n (p2 + 1 + 1 + 1) := (hra.keepb (bAlloc (Below.refl _ _) _)).grown hgrow (fun k e => by have := ownK_base owna k e; omega)
            have hx9 : Bx g w w9 := (xa.alloc _).grown hgrow (ownK_base owna)
            exact ⟨⟨m - 1, l ++ [(((K2, V2), (A, B1)), D)], (p2 + 1 + 1 + 1), by omega, by congr 1; omega, by simp; omega, sm_snoc HS.out HS1.out, own9, by omega, by have := HQ.out; simp; omega, hr9, hx9⟩, by simp [intOf]; omega⟩
        · have hkb3 : (k3 == 0) = false := by simpa using hk3
          obtain ⟨q0, q1, q2, q3, q4⟩ := b4.five
          have hW9 := x4.size
          go_wp2_with (at_builtin; refine appR _ rfl _ _ rfl w.heap.size _ l rfl (own4.alloc _) _ K V A B1 D rfl (Bk.new _ _ rfl) (by omega) (by simp; omega) ?_; intro g9 cap9 w9 own9 hgrow hlg)
          have hr9 : Rd B w9 g v n (p2 + 1) := (hr4.keepb (bAlloc (Below.refl _ _) _)).grown hgrow (fun k e => by have := ownK_base own4 k e; omega)
          have hx9 : Bx g w w9 := (x4.alloc _).grown hgrow (ownK_base own4)
          exact ⟨⟨m - 1, l ++ [(((K, V), (A, B1)), D)], (p2 + 1), by omega, by congr 1; omega, by simp; omega, sm_snoc HS.out HSR.out, own9, by omega, by have := HQ.out; simp; omega, hr9, hx9⟩, by simp [intOf]; omega⟩
      · obtain rfl : l = [] := List.eq_nil_of_length_eq_zero (by omega)
        simp only [List.length_nil] at *
        obtain ⟨q0, q1, q2, q3, q4⟩ := b3.five
        have hW9 := x3.size
        go_wp2_with (at_builtin; refine appR _ rfl _ _ rfl w.heap.size _ [] rfl (own3.alloc _) _ K V A B1 D rfl (Bk.new _ _ rfl) (by simp) (by simp; omega) ?_; intro g9 cap9 w9 own9 hgrow hlg)
        have hr9 : Rd B w9 g v n p2 := (hr3.keepb (bAlloc (Below.refl _ _) _)).grown hgrow (fun k e => by have := ownK_base own3 k e; omega)
        have hx9 : Bx g w w9 := (x3.alloc _).grown hgrow (ownK_base own3)
        exact ⟨⟨m - 1, [] ++ [(((K, V), (A, B1)), D)], p2, by omega, by congr 1; omega, by simp; omega, sm_snoc HS.out HSR.out, own9, by omega, by have := HQ.out; simp; omega, hr9, hx9⟩, by simp [intOf]; omega⟩
    · obtain rfl : m = 0 := by omega
      have := HQ.out
      go_wp2_with fail
      go_ret
      exact ⟨_, l, rfl, by omega, HS.out, HO.out, ⟨p', hpp, by omega, hr⟩, hx⟩
end Go.Proofs.Ytlddhfimiignaaa

/-! What the drawing of rows of which one is spoilt answers, of rows as they come, and of batches: contracts. -/
namespace Go.Proofs.Ytlddhfimiignaaa
open Go.RowKit

theorem ownR_al {w : World} {B : Nat} {v : Value} {l : List Rw} {o : Obj} (h : OwnR w B v l) : OwnR (w.alloc o) B v l := h.alloc o
theorem ownR_dr {w : World} {B : Nat} {v : Value} {l : List Rw} (h : OwnR w B v l) : OwnR w.drew B v l := h
section
variable {ops : Array Oper} {o : Oper} {a : Act} {Kk : Act → World → Prop} {Q : Exit → Act → World → Prop} {E : Prop}
/-- 'append(v, v2...)', in a region that draws its order. -/
theorem stepRs (w : World) (hgd : o.guard = none) (s x : Operand) (ho : o.op = .call { callee := .builtin .append, args := #[s, x], argTypes := #[35, 35] })
    (base : Nat) (v : Value) (l : List Rw) (hs : a.eval s = v) (hown : OwnR w base v l) (v2 : Value) (m : List Rw) (hx : a.eval x = v2) (hR : Rs w v2 m) (hl : l.length + m.length ≤ 2000000) (hbase : base ≤ w.heap.size)
    (h : ∀ v' w', OwnR w' base v' (l ++ m) → w.grownBy w' v.ownBlock → Kk (a.put o.dst v') w') :
    if Region.wanted o (yielded ops a.tmps) = true then Oper.wp Try.prog o a w Kk Q else E := by
  have hw : Region.wanted o (yielded ops a.tmps) = true := by simp [Region.wanted, hgd]
  rw [if_pos hw]
  obtain ⟨i0, hi, hz0, hz1, hz2⟩ := info_parts infoR
  obtain ⟨ad, cap, rfl, hsrc⟩ := rs_src hR
  by_cases hm0 : m = []
  · subst hm0
    have hrun := app_zero hown ad cap o.type
    unfold Oper.wp
    simp [execOp, ho, resolve, invoke, builtin, hs, hx, hrun, Result.andThen]
    exact h v w (by simpa using hown) ⟨rfl, rfl, rfl, Nat.le_refl _, fun _ _ _ => rfl⟩
  · obtain ⟨g, off, rfl, hnews⟩ := hsrc hm0
    have hpos : 0 < m.length := List.length_pos_iff.2 hm0
    refine wp_append_lies w s x 35 ho base 55 i0 _ 5 40 Try.underlying35 hi hz0 hz1 hz2 rfl (by decide) v l.length (l.flatMap rowC) hs hown ⟨g, off, none⟩ m.length cap (m.flatMap rowC) hx (flat_len rowC_len m) hnews (onesRs m) hpos (by unfold maxLen; omega) (by omega) hbase w.heap.size rfl ?_
    intro g' cap' w' h1 h2 _ _
    refine h _ w' ?_ h2
    show w'.ownsRow _ _ _ _ _ _
    rw [List.flatMap_append, List.length_append]; exact h1
end
theorem bad_key {K V A B D : Int} (h : K < 0 ∨ 3 < K) : rwOkB (((K, V), (A, B)), D) = false := by
  have : inB K 0 3 = false := by simp [inB]; omega
  simp [rwOkB, this]
theorem bad_val {K V A B D : Int} (h : V < 0 ∨ 99 < V) : rwOkB (((K, V), (A, B)), D) = false := by
  have : inB V 0 99 = false := by simp [inB]; omega
  simp [rwOkB, this]
theorem bad_time {K V A B D : Int} (h : A < 0 ∨ 7 < B) : rwOkB (((K, V), (A, B)), D) = false := by
  have : okB A B = false := by simp [okB]; omega
  simp [rwOkB, this]
theorem bad_diff {K V A B D : Int} (h : D < -99999 ∨ 99999 < D) : rwOkB (((K, V), (A, B)), D) = false := by
  have : inB D (-99999) 99999 = false := by simp [inB]; omega
  simp [rwOkB, this]
set_option maxRecDepth 100000 in
set_option maxHeartbeats 16000000 in
theorem l71Spoil_any {B : Nat} {w : World} {g : Nat} {v : Value} {n : Nat} {p : Int} (h : Rd B w g v n p) (hp : 0 ≤ p) (hp' : p ≤ 700000) (lv : Value) (l : List Rw) (hl : Rs w lv l) (hl1 : l.length ≤ 1000) (hlx : ∀ W, Bx g w W → Rs W lv l) :
    Calls Try.prog 101 #[.pointer (some ⟨g, 0, none⟩), lv] w fun e w' => ∃ (o : Value) (l' : List Rw), e = .returned o ∧ l'.length = l.length + 1 ∧ rokB l' = false ∧ OwnR w' w.heap.size o l' ∧ (∃ p' : Int, p ≤ p' ∧ p' ≤ p + 60 ∧ Rd B w' g v n p') ∧ Bx g w w' := by
  have hg := h.blk.lt
  have hh := h.here
  have hs := h.size
  have HL : Hid (∀ W, Bx g w W → Rs W lv l) := hlx
  obtain ⟨al, capl, rfl, -, -, -, -⟩ := hl
  generalize hlv : Value.slice al l.length capl = lv at *
  clear hlv hlx
  go_enter Try.func101, Try.ntmps101
  go_wp2_with fail
  refine (l71Row_any h hp (by omega)).mono ?_
  rintro e w1 ⟨K, V, A, B1, D, rfl, -, ⟨p1, hp1, hp2, hr1⟩, hx1⟩
  have hz1 := hx1.size
  have hr2 := hr1.keepb (bAlloc (Below.refl _ _) (.cells #[.int .i64 K, .int .i64 V, .int .i64 A, .int .i64 B1, .int .i64 D] 55))
  have b2 : Bk (w1.alloc (.cells #[.int .i64 K, .int .i64 V, .int .i64 A, .int .i64 B1, .int .i64 D] 55)) w1.heap.size #[.int .i64 K, .int .i64 V, .int .i64 A, .int .i64 B1, .int .i64 D] 55 := Bk.new _ _ rfl
  have x2 := hx1.alloc (.cells #[.int .i64 K, .int .i64 V, .int .i64 A, .int .i64 B1, .int .i64 D] 55)
  go_upto_region 2 with fail
  generalize (w1.alloc (.cells #[.int .i64 K, .int .i64 V, .int .i64 A, .int .i64 B1, .int .i64 D] 55)) = w2 at *
  clear hx1 hr1
  go_wp2_with fail
  refine (pick_any hr2 (by omega) (by omega) _ (by omega) (by omega)).mono ?_
  rintro e w3 ⟨k, rfl, hk0, hk1, hr3, hx3⟩
  have b3 := b2.keepx hx3 (by omega)
  have x3 := x2.trans hx3
  have lb3 := b3.lt
  clear hr2 b2 x2 hx3
  by_cases h0 : k = 0
  · subst h0
    have hr4 := hr3.keepb (bAlloc (Below.refl _ _) (.cells #[.int .i64 (-1), .int .i64 4] 3))
    have t4 : Bk (w3.alloc (.cells #[.int .i64 (-1), .int .i64 4] 3)) w3.heap.size #[.int .i64 (-1), .int .i64 4] 3 := Bk.new _ _ rfl
    have b4 := b3.alloc (.cells #[.int .i64 (-1), .int .i64 4] 3)
    have x4 := x3.alloc (.cells #[.int .i64 (-1), .int .i64 4] 3)
    go_wp2_with fail
    refine (pick_any hr4 (by omega) (by omega) _ (by omega) (by omega)).mono ?_
    rintro e w5 ⟨j, rfl, hj0, hj1, hr5, hx5⟩
    have b5 := b4.keepx hx5 (by omega)
    have t5 := t4.keepx hx5 (by omega)
    have x5 := x4.trans hx5
    obtain ⟨l0, l1, _, _⟩ := t5.two
    obtain ⟨q0, q1, q2, q3, q4⟩ := b5.five
    have f5 := b5.free 0
    clear hr3 b3 x3 hr4 t4 b4 x4 hx5
    rcases (show j = 0 ∨ j = 1 by omega) with rfl | rfl
    · have b6 := b5.set 0 (.int .i64 (-1))
      have hr6 := hr5.apart (q := ⟨w1.heap.size, 0, none⟩) (by simp; omega) (by simp; omega) (.int .i64 (-1))
      have x6 := x5.setNew (p := ⟨w1.heap.size, 0, none⟩) (by simp; omega) (.int .i64 (-1))
      go_upto_region 12 with fail
      generalize (w5.setCell ⟨w1.heap.size, 0, none⟩ (.int .i64 (-1))) = w6 at *
      have b6' : Bk w6 w1.heap.size #[.int .i64 (-1), .int .i64 V, .int .i64 A, .int .i64 B1, .int .i64 D] 55 := b6
      clear l0 l1 q0 q1 q2 q3 q4 f5 b5 t5 hr5 x5 b6
      obtain ⟨q0, q1, q2, q3, q4⟩ := b6'.five
      have RW : Hid (Rs w6 lv l) := HL.out _ x6
      have HX : Hid (∀ W, Below w6.heap.size w6 W → W.cell? ⟨w1.heap.size, 0, none⟩ = some (.int .i64 (-1)) ∧ W.cell? ⟨w1.heap.size, 1, none⟩ = some (.int .i64 V) ∧ W.cell? ⟨w1.heap.size, 2, none⟩ = some (.int .i64 A) ∧ W.cell? ⟨w1.heap.size, 3, none⟩ = some (.int .i64 B1) ∧ W.cell? ⟨w1.heap.size, 4, none⟩ = some (.int .i64 D)) :=
        fun W hW => (b6'.keep hW).five
      have xs := x6.size
      clear q0 q1 q2 q3 q4
      go_upto_region 12 with fail
      go_region_held3 (fun W => W.cell? ⟨w1.heap.size, 0, none⟩ = some (.int .i64 (-1)) ∧ W.cell? ⟨w1.heap.size, 1, none⟩ = some (.int .i64 V) ∧ W.cell? ⟨w1.heap.size, 2, none⟩ = some (.int .i64 A) ∧ W.cell? ⟨w1.heap.size, 3, none⟩ = some (.int .i64 B1) ∧ W.cell? ⟨w1.heap.size, 4, none⟩ = some (.int .i64 D))
        (exact HX.out _ (by (repeat' (first | with_reducible exact Below.refl _ _ | with_reducible assumption | with_reducible refine bAlloc ?_ _ | with_reducible refine Below.drew ?_))))
        (first
          | (refine stepRs _ (by rfl) _ _ (by rfl) w6.heap.size (.slice (some ⟨_, 0, none⟩) 0 0) [] (by rfl) (by (repeat' (first | with_reducible assumption | with_reducible exact own_less (ownR_empty _ rfl) (by (simp <;> omega)) | with_reducible exact own_less (ownR_empty _ (by simp)) (by (simp <;> omega)) | with_reducible refine ownR_al ?_ | with_reducible refine ownR_dr ?_))) _ l (by rfl) (RW.out.keep (by (repeat' (first | with_reducible exact Below.refl _ _ | with_reducible assumption | with_reducible refine bAlloc ?_ _ | with_reducible refine Below.drew ?_)))) (by simp; omega) (by (simp <;> omega)) ?_; intro v4 w4 own4 hg4; have hb4 : Below w6.heap.size w6 w4 := Below.grew (by (repeat' (first | with_reducible exact Below.refl _ _ | with_reducible assumption | with_reducible refine bAlloc ?_ _ | with_reducible refine Below.drew ?_))) hg4 (by (simp <;> omega)) (fun k e => by simp [Value.ownBlock] at e; omega); have own4' : OwnR w4 w6.heap.size v4 l := own4)
          | (refine stepR _ (by rfl) _ _ (by rfl) w6.heap.size v4 l (by rfl) (by (repeat' (first | with_reducible assumption | with_reducible exact own_less (ownR_empty _ rfl) (by (simp <;> omega)) | with_reducible exact own_less (ownR_empty _ (by simp)) (by (simp <;> omega)) | with_reducible refine ownR_al ?_ | with_reducible refine ownR_dr ?_))) _ (-1) V A B1 D (by rfl) (by (repeat' (first | with_reducible exact Bk.new _ _ rfl | with_reducible exact Bk.new _ _ (by (simp <;> omega)) | with_reducible refine Bk.drew ?_ | with_reducible refine Bk.alloc ?_ _ | with_reducible refine Bk.grew ?_ (by assumption) (fun k e => by simp [Value.ownBlock] at e; omega)))) (by omega) (by have := hb4.size; (simp <;> omega)) ?_; intro g9 cap9 w9 own9 hg9 hl9; have hb9 : Below w6.heap.size w6 w9 := Below.grew (by (repeat' (first | with_reducible exact Below.refl _ _ | with_reducible assumption | with_reducible refine bAlloc ?_ _ | with_reducible refine Below.drew ?_))) hg9 (by have := hb4.size; (simp <;> omega)) (ownK_base own4)))
      all_goals go_wp2_with fail
      all_goals go_ret
      all_goals exact ⟨_, l ++ [((((-1), V), (A, B1)), D)], rfl, by simp, rok_no (r := ((((-1), V), (A, B1)), D)) (by simp) (bad_key (by omega)), own_less own9 (by omega), ⟨(p1 + 1 + 1), by omega, by omega, hr6.keepb hb9⟩, x6.trans (Bx.of_below hb9)⟩
    · have b6 := b5.set 0 (.int .i64 (4))
      have hr6 := hr5.apart (q := ⟨w1.heap.size, 0, none⟩) (by simp; omega) (by simp; omega) (.int .i64 (4))
      have x6 := x5.setNew (p := ⟨w1.heap.size, 0, none⟩) (by simp; omega) (.int .i64 (4))
      go_upto_region 12 with fail
      generalize (w5.setCell ⟨w1.heap.size, 0, none⟩ (.int .i64 (4))) = w6 at *
      have b6' : Bk w6 w1.heap.size #[.int .i64 (4), .int .i64 V, .int .i64 A, .int .i64 B1, .int .i64 D] 55 := b6
      clear l0 l1 q0 q1 q2 q3 q4 f5 b5 t5 hr5 x5 b6
      obtain ⟨q0, q1, q2, q3, q4⟩ := b6'.five
      have RW : Hid (Rs w6 lv l) := HL.out _ x6
      have HX : Hid (∀ W, Below w6.heap.size w6 W → W.cell? ⟨w1.heap.size, 0, none⟩ = some (.int .i64 (4)) ∧ W.cell? ⟨w1.heap.size, 1, none⟩ = some (.int .i64 V) ∧ W.cell? ⟨w1.heap.size, 2, none⟩ = some (.int .i64 A) ∧ W.cell? ⟨w1.heap.size, 3, none⟩ = some (.int .i64 B1) ∧ W.cell? ⟨w1.heap.size, 4, none⟩ = some (.int .i64 D)) :=
        fun W hW => (b6'.keep hW).five
      have xs := x6.size
      clear q0 q1 q2 q3 q4
      go_upto_region 12 with fail
      go_region_held3 (fun W => W.cell? ⟨w1.heap.size, 0, none⟩ = some (.int .i64 (4)) ∧ W.cell? ⟨w1.heap.size, 1, none⟩ = some (.int .i64 V) ∧ W.cell? ⟨w1.heap.size, 2, none⟩ = some (.int .i64 A) ∧ W.cell? ⟨w1.heap.size, 3, none⟩ = some (.int .i64 B1) ∧ W.cell? ⟨w1.heap.size, 4, none⟩ = some (.int .i64 D))
        (exact HX.out _ (by (repeat' (first | with_reducible exact Below.refl _ _ | with_reducible assumption | with_reducible refine bAlloc ?_ _ | with_reducible refine Below.drew ?_))))
        (first
          | (refine stepRs _ (by rfl) _ _ (by rfl) w6.heap.size (.slice (some ⟨_, 0, none⟩) 0 0) [] (by rfl) (by (repeat' (first | with_reducible assumption | with_reducible exact own_less (ownR_empty _ rfl) (by (simp <;> omega)) | with_reducible exact own_less (ownR_empty _ (by simp)) (by (simp <;> omega)) | with_reducible refine ownR_al ?_ | with_reducible refine ownR_dr ?_))) _ l (by rfl) (RW.out.keep (by (repeat' (first | with_reducible exact Below.refl _ _ | with_reducible assumption | with_reducible refine bAlloc ?_ _ | with_reducible refine Below.drew ?_)))) (by simp; omega) (by (simp <;> omega)) ?_; intro v4 w4 own4 hg4; have hb4 : Below w6.heap.size w6 w4 := Below.grew (by (repeat' (first | with_reducible exact Below.refl _ _ | with_reducible assumption | with_reducible refine bAlloc ?_ _ | with_reducible refine Below.drew ?_))) hg4 (by (simp <;> omega)) (fun k e => by simp [Value.ownBlock] at e; omega); have own4' : OwnR w4 w6.heap.size v4 l := own4)
          | (refine stepR _ (by rfl) _ _ (by rfl) w6.heap.size v4 l (by rfl) (by (repeat' (first | with_reducible assumption | with_reducible exact own_less (ownR_empty _ rfl) (by (simp <;> omega)) | with_reducible exact own_less (ownR_empty _ (by simp)) (by (simp <;> omega)) | with_reducible refine ownR_al ?_ | with_reducible refine ownR_dr ?_))) _ (4) V A B1 D (by rfl) (by (repeat' (first | with_reducible exact Bk.new _ _ rfl | with_reducible exact Bk.new _ _ (by (simp <;> omega)) | with_reducible refine Bk.drew ?_ | with_reducible refine Bk.alloc ?_ _ | with_reducible refine Bk.grew ?_ (by assumption) (fun k e => by simp [Value.ownBlock] at e; omega)))) (by omega) (by have := hb4.size; (simp <;> omega)) ?_; intro g9 cap9 w9 own9 hg9 hl9; have hb9 : Below w6.heap.size w6 w9 := Below.grew (by (repeat' (first | with_reducible exact Below.refl _ _ | with_reducible assumption | with_reducible refine bAlloc ?_ _ | with_reducible refine Below.drew ?_))) hg9 (by have := hb4.size; (simp <;> omega)) (ownK_base own4)))
      all_goals go_wp2_with fail
      all_goals go_ret
      all_goals exact ⟨_, l ++ [((((4), V), (A, B1)), D)], rfl, by simp, rok_no (r := ((((4), V), (A, B1)), D)) (by simp) (bad_key (by omega)), own_less own9 (by omega), ⟨(p1 + 1 + 1), by omega, by omega, hr6.keepb hb9⟩, x6.trans (Bx.of_below hb9)⟩
  have e0 : (k == 0) = false := by simpa using h0
  by_cases h1 : k = 1
  · subst h1
    have hr4 := hr3.keepb (bAlloc (Below.refl _ _) (.cells #[.int .i64 (-1), .int .i64 100] 3))
    have t4 : Bk (w3.alloc (.cells #[.int .i64 (-1), .int .i64 100] 3)) w3.heap.size #[.int .i64 (-1), .int .i64 100] 3 := Bk.new _ _ rfl
    have b4 := b3.alloc (.cells #[.int .i64 (-1), .int .i64 100] 3)
    have x4 := x3.alloc (.cells #[.int .i64 (-1), .int .i64 100] 3)
    go_wp2_with fail
    refine (pick_any hr4 (by omega) (by omega) _ (by omega) (by omega)).mono ?_
    rintro e w5 ⟨j, rfl, hj0, hj1, hr5, hx5⟩
    have b5 := b4.keepx hx5 (by omega)
    have t5 := t4.keepx hx5 (by omega)
    have x5 := x4.trans hx5
    obtain ⟨l0, l1, _, _⟩ := t5.two
    obtain ⟨q0, q1, q2, q3, q4⟩ := b5.five
    have f5 := b5.free 1
    clear hr3 b3 x3 hr4 t4 b4 x4 hx5
    rcases (show j = 0 ∨ j = 1 by omega) with rfl | rfl
    · have b6 := b5.set 1 (.int .i64 (-1))
      have hr6 := hr5.apart (q := ⟨w1.heap.size, 1, none⟩) (by simp; omega) (by simp; omega) (.int .i64 (-1))
      have x6 := x5.setNew (p := ⟨w1.heap.size, 1, none⟩) (by simp; omega) (.int .i64 (-1))
      go_upto_region 12 with fail
      generalize (w5.setCell ⟨w1.heap.size, 1, none⟩ (.int .i64 (-1))) = w6 at *
      have b6' : Bk w6 w1.heap.size #[.int .i64 K, .int .i64 (-1), .int .i64 A, .int .i64 B1, .int .i64 D] 55 := b6
      clear l0 l1 q0 q1 q2 q3 q4 f5 b5 t5 hr5 x5 b6
      obtain ⟨q0, q1, q2, q3, q4⟩ := b6'.five
      have RW : Hid (Rs w6 lv l) := HL.out _ x6
      have HX : Hid (∀ W, Below w6.heap.size w6 W → W.cell? ⟨w1.heap.size, 0, none⟩ = some (.int .i64 K) ∧ W.cell? ⟨w1.heap.size, 1, none⟩ = some (.int .i64 (-1)) ∧ W.cell? ⟨w1.heap.size, 2, none⟩ = some (.int .i64 A) ∧ W.cell? ⟨w1.heap.size, 3, none⟩ = some (.int .i64 B1) ∧ W.cell? ⟨w1.heap.size, 4, none⟩ = some (.int .i64 D)) :=
        fun W hW => (b6'.keep hW).five
      have xs := x6.size
      clear q0 q1 q2 q3 q4
      go_upto_region 12 with fail
      go_region_held3 (fun W => W.cell? ⟨w1.heap.size, 0, none⟩ = some (.int .i64 K) ∧ W.cell? ⟨w1.heap.size, 1, none⟩ = some (.int .i64 (-1)) ∧ W.cell? ⟨w1.heap.size, 2, none⟩ = some (.int .i64 A) ∧ W.cell? ⟨w1.heap.size, 3, none⟩ = some (.int .i64 B1) ∧ W.cell? ⟨w1.heap.size, 4, none⟩ = some (.int .i64 D))
        (exact HX.out _ (by (repeat' (first | with_reducible exact Below.refl _ _ | with_reducible assumption | with_reducible refine bAlloc ?_ _ | with_reducible refine Below.drew ?_))))
        (first
          | (refine stepRs _ (by rfl) _ _ (by rfl) w6.heap.size (.slice (some ⟨_, 0, none⟩) 0 0) [] (by rfl) (by (repeat' (first | with_reducible assumption | with_reducible exact own_less (ownR_empty _ rfl) (by (simp <;> omega)) | with_reducible exact own_less (ownR_empty _ (by simp)) (by (simp <;> omega)) | with_reducible refine ownR_al ?_ | with_reducible refine ownR_dr ?_))) _ l (by rfl) (RW.out.keep (by (repeat' (first | with_reducible exact Below.refl _ _ | with_reducible assumption | with_reducible refine bAlloc ?_ _ | with_reducible refine Below.drew ?_)))) (by simp; omega) (by (simp <;> omega)) ?_; intro v4 w4 own4 hg4; have hb4 : Below w6.heap.size w6 w4 := Below.grew (by (repeat' (first | with_reducible exact Below.refl _ _ | with_reducible assumption | with_reducible refine bAlloc ?_ _ | with_reducible refine Below.drew ?_))) hg4 (by (simp <;> omega)) (fun k e => by simp [Value.ownBlock] at e; omega); have own4' : OwnR w4 w6.heap.size v4 l := own4)
          | (refine stepR _ (by rfl) _ _ (by rfl) w6.heap.size v4 l (by rfl) (by (repeat' (first | with_reducible assumption | with_reducible exact own_less (ownR_empty _ rfl) (by (simp <;> omega)) | with_reducible exact own_less (ownR_empty _ (by simp)) (by (simp <;> omega)) | with_reducible refine ownR_al ?_ | with_reducible refine ownR_dr ?_))) _ K (-1) A B1 D (by rfl) (by (repeat' (first | with_reducible exact Bk.new _ _ rfl | with_reducible exact Bk.new _ _ (by (simp <;> omega)) | with_reducible refine Bk.drew ?_ | with_reducible refine Bk.alloc ?_ _ | with_reducible refine Bk.grew ?_ (by assumption) (fun k e => by simp [Value.ownBlock] at e; omega)))) (by omega) (by have := hb4.size; (simp <;> omega)) ?_; intro g9 cap9 w9 own9 hg9 hl9; have hb9 : Below w6.heap.size w6 w9 := Below.grew (by (repeat' (first | with_reducible exact Below.refl _ _ | with_reducible assumption | with_reducible refine bAlloc ?_ _ | with_reducible refine Below.drew ?_))) hg9 (by have := hb4.size; (simp <;> omega)) (ownK_base own4)))
      all_goals go_wp2_with fail
      all_goals go_ret
      all_goals exact ⟨_, l ++ [(((K, (-1)), (A, B1)), D)], rfl, by simp, rok_no (r := (((K, (-1)), (A, B1)), D)) (by simp) (bad_val (by omega)), own_less own9 (by omega), ⟨(p1 + 1 + 1), by omega, by omega, hr6.keepb hb9⟩, x6.trans (Bx.of_below hb9)⟩
    · have b6 := b5.set 1 (.int .i64 (100))
      have hr6 := hr5.apart (q := ⟨w1.heap.size, 1, none⟩) (by simp; omega) (by simp; omega) (.int .i64 (100))
      have x6 := x5.setNew (p := ⟨w1.heap.size, 1, none⟩) (by simp; omega) (.int .i64 (100))
      go_upto_region 12 with fail
      generalize (w5.setCell ⟨w1.heap.size, 1, none⟩ (.int .i64 (100))) = w6 at *
      have b6' : Bk w6 w1.heap.size #[.int .i64 K, .int .i64 (100), .int .i64 A, .int .i64 B1, .int .i64 D] 55 := b6
      clear l0 l1 q0 q1 q2 q3 q4 f5 b5 t5 hr5 x5 b6
      obtain ⟨q0, q1, q2, q3, q4⟩ := b6'.five
      have RW : Hid (Rs w6 lv l) := HL.out _ x6
      have HX : Hid (∀ W, Below w6.heap.size w6 W → W.cell? ⟨w1.heap.size, 0, none⟩ = some (.int .i64 K) ∧ W.cell? ⟨w1.heap.size, 1, none⟩ = some (.int .i64 (100)) ∧ W.cell? ⟨w1.heap.size, 2, none⟩ = some (.int .i64 A) ∧ W.cell? ⟨w1.heap.size, 3, none⟩ = some (.int .i64 B1) ∧ W.cell? ⟨w1.heap.size, 4, none⟩ = some (.int .i64 D)) :=
        fun W hW => (b6'.keep hW).five
      have xs := x6.size
      clear q0 q1 q2 q3 q4
      go_upto_region 12 with fail
      go_region_held3 (fun W => W.cell? ⟨w1.heap.size, 0, none⟩ = some (.int .i64 K) ∧ W.cell? ⟨w1.heap.size, 1, none⟩ = some (.int .i64 (100)) ∧ W.cell? ⟨w1.heap.size, 2, none⟩ = some (.int .i64 A) ∧ W.cell? ⟨w1.heap.size, 3, none⟩ = some (.int .i64 B1) ∧ W.cell? ⟨w1.heap.size, 4, none⟩ = some (.int .i64 D))
        (exact HX.out _ (by (repeat' (first | with_reducible exact Below.refl _ _ | with_reducible assumption | with_reducible refine bAlloc ?_ _ | with_reducible refine Below.drew ?_))))
        (first
          | (refine stepRs _ (by rfl) _ _ (by rfl) w6.heap.size (.slice (some ⟨_, 0, none⟩) 0 0) [] (by rfl) (by (repeat' (first | with_reducible assumption | with_reducible exact own_less (ownR_empty _ rfl) (by (simp <;> omega)) | with_reducible exact own_less (ownR_empty _ (by simp)) (by (simp <;> omega)) | with_reducible refine ownR_al ?_ | with_reducible refine ownR_dr ?_))) _ l (by rfl) (RW.out.keep (by (repeat' (first | with_reducible exact Below.refl _ _ | with_reducible assumption | with_reducible refine bAlloc ?_ _ | with_reducible refine Below.drew ?_)))) (by simp; omega) (by (simp <;> omega)) ?_; intro v4 w4 own4 hg4; have hb4 : Below w6.heap.size w6 w4 := Below.grew (by (repeat' (first | with_reducible exact Below.refl _ _ | with_reducible assumption | with_reducible refine bAlloc ?_ _ | with_reducible refine Below.drew ?_))) hg4 (by (simp <;> omega)) (fun k e => by simp [Value.ownBlock] at e; omega); have own4' : OwnR w4 w6.heap.size v4 l := own4)
          | (refine stepR _ (by rfl) _ _ (by rfl) w6.heap.size v4 l (by rfl) (by (repeat' (first | with_reducible assumption | with_reducible exact own_less (ownR_empty _ rfl) (by (simp <;> omega)) | with_reducible exact own_less (ownR_empty _ (by simp)) (by (simp <;> omega)) | with_reducible refine ownR_al ?_ | with_reducible refine ownR_dr ?_))) _ K (100) A B1 D (by rfl) (by (repeat' (first | with_reducible exact Bk.new _ _ rfl | with_reducible exact Bk.new _ _ (by (simp <;> omega)) | with_reducible refine Bk.drew ?_ | with_reducible refine Bk.alloc ?_ _ | with_reducible refine Bk.grew ?_ (by assumption) (fun k e => by simp [Value.ownBlock] at e; omega)))) (by omega) (by have := hb4.size; (simp <;> omega)) ?_; intro g9 cap9 w9 own9 hg9 hl9; have hb9 : Below w6.heap.size w6 w9 := Below.grew (by (repeat' (first | with_reducible exact Below.refl _ _ | with_reducible assumption | with_reducible refine bAlloc ?_ _ | with_reducible refine Below.drew ?_))) hg9 (by have := hb4.size; (simp <;> omega)) (ownK_base own4)))
      all_goals go_wp2_with fail
      all_goals go_ret
      all_goals exact ⟨_, l ++ [(((K, (100)), (A, B1)), D)], rfl, by simp, rok_no (r := (((K, (100)), (A, B1)), D)) (by simp) (bad_val (by omega)), own_less own9 (by omega), ⟨(p1 + 1 + 1), by omega, by omega, hr6.keepb hb9⟩, x6.trans (Bx.of_below hb9)⟩
  have e1 : (k == 1) = false := by simpa using h1
  by_cases h2 : k = 2
  · subst h2
    obtain ⟨q0, q1, q2, q3, q4⟩ := b3.five
    have f00 := b3.free 2
    have b60 := b3.set 2 (.int .i64 (-1))
    have hr60 := hr3.apart (q := ⟨w1.heap.size, 2, none⟩) (by simp; omega) (by simp; omega) (.int .i64 (-1))
    have x60 := x3.setNew (p := ⟨w1.heap.size, 2, none⟩) (by simp; omega) (.int .i64 (-1))
    have z60 := (Bk.five b60)
    obtain ⟨z0, z1, z2, z3, z4⟩ := z60
    have f11 := b60.free 3
    have b61 := b60.set 3 (.int .i64 (0))
    have hr61 := hr60.apart (q := ⟨w1.heap.size, 3, none⟩) (by simp; omega) (by simp; omega) (.int .i64 (0))
    have x61 := x60.setNew (p := ⟨w1.heap.size, 3, none⟩) (by simp; omega) (.int .i64 (0))
    go_upto_region 12 with fail
    generalize ((w3.setCell ⟨w1.heap.size, 2, none⟩ (.int .i64 (-1))).setCell ⟨w1.heap.size, 3, none⟩ (.int .i64 (0))) = w6 at *
    have b6' : Bk w6 w1.heap.size #[.int .i64 K, .int .i64 V, .int .i64 (-1), .int .i64 0, .int .i64 D] 55 := b61
    clear q0 q1 q2 q3 q4
    obtain ⟨q0, q1, q2, q3, q4⟩ := b6'.five
    have RW : Hid (Rs w6 lv l) := HL.out _ x61
    have HX : Hid (∀ W, Below w6.heap.size w6 W → W.cell? ⟨w1.heap.size, 0, none⟩ = some (.int .i64 K) ∧ W.cell? ⟨w1.heap.size, 1, none⟩ = some (.int .i64 V) ∧ W.cell? ⟨w1.heap.size, 2, none⟩ = some (.int .i64 (-1)) ∧ W.cell? ⟨w1.heap.size, 3, none⟩ = some (.int .i64 0) ∧ W.cell? ⟨w1.heap.size, 4, none⟩ = some (.int .i64 D)) :=
      fun W hW => (b6'.keep hW).five
    have xs := x61.size
    clear q0 q1 q2 q3 q4
    go_upto_region 12 with fail
    go_region_held3 (fun W => W.cell? ⟨w1.heap.size, 0, none⟩ = some (.int .i64 K) ∧ W.cell? ⟨w1.heap.size, 1, none⟩ = some (.int .i64 V) ∧ W.cell? ⟨w1.heap.size, 2, none⟩ = some (.int .i64 (-1)) ∧ W.cell? ⟨w1.heap.size, 3, none⟩ = some (.int .i64 0) ∧ W.cell? ⟨w1.heap.size, 4, none⟩ = some (.int .i64 D))
      (exact HX.out _ (by (repeat' (first | with_reducible exact Below.refl _ _ | with_reducible assumption | with_reducible refine bAlloc ?_ _ | with_reducible refine Below.drew ?_))))
      (first
        | (refine stepRs _ (by rfl) _ _ (by rfl) w6.heap.size (.slice (some ⟨_, 0, none⟩) 0 0) [] (by rfl) (by (repeat' (first | with_reducible assumption | with_reducible exact own_less (ownR_empty _ rfl) (by (simp <;> omega)) | with_reducible exact own_less (ownR_empty _ (by simp)) (by (simp <;> omega)) | with_reducible refine ownR_al ?_ | with_reducible refine ownR_dr ?_))) _ l (by rfl) (RW.out.keep (by (repeat' (first | with_reducible exact Below.refl _ _ | with_reducible assumption | with_reducible refine bAlloc ?_ _ | with_reducible refine Below.drew ?_)))) (by simp; omega) (by (simp <;> omega)) ?_; intro v4 w4 own4 hg4; have hb4 : Below w6.heap.size w6 w4 := Below.grew (by (repeat' (first | with_reducible exact Below.refl _ _ | with_reducible assumption | with_reducible refine bAlloc ?_ _ | with_reducible refine Below.drew ?_))) hg4 (by (simp <;> omega)) (fun k e => by simp [Value.ownBlock] at e; omega); have own4' : OwnR w4 w6.heap.size v4 l := own4)
        | (refine stepR _ (by rfl) _ _ (by rfl) w6.heap.size v4 l (by rfl) (by (repeat' (first | with_reducible assumption | with_reducible exact own_less (ownR_empty _ rfl) (by (simp <;> omega)) | with_reducible exact own_less (ownR_empty _ (by simp)) (by (simp <;> omega)) | with_reducible refine ownR_al ?_ | with_reducible refine ownR_dr ?_))) _ K V (-1) 0 D (by rfl) (by (repeat' (first | with_reducible exact Bk.new _ _ rfl | with_reducible exact Bk.new _ _ (by (simp <;> omega)) | with_reducible refine Bk.drew ?_ | with_reducible refine Bk.alloc ?_ _ | with_reducible refine Bk.grew ?_ (by assumption) (fun k e => by simp [Value.ownBlock] at e; omega)))) (by omega) (by have := hb4.size; (simp <;> omega)) ?_; intro g9 cap9 w9 own9 hg9 hl9; have hb9 : Below w6.heap.size w6 w9 := Below.grew (by (repeat' (first | with_reducible exact Below.refl _ _ | with_reducible assumption | with_reducible refine bAlloc ?_ _ | with_reducible refine Below.drew ?_))) hg9 (by have := hb4.size; (simp <;> omega)) (ownK_base own4)))
    all_goals go_wp2_with fail
    all_goals go_ret
    all_goals exact ⟨_, l ++ [(((K, V), ((-1), 0)), D)], rfl, by simp, rok_no (r := (((K, V), ((-1), 0)), D)) (by simp) (bad_time (by omega)), own_less own9 (by omega), ⟨(p1 + 1), by omega, by omega, hr61.keepb hb9⟩, x61.trans (Bx.of_below hb9)⟩
  have e2 : (k == 2) = false := by simpa using h2
  by_cases h3 : k = 3
  · subst h3
    have hr4 := hr3.keepb (bAlloc (Below.refl _ _) (.cells #[.int .i64 (-100000), .int .i64 100000] 3))
    have t4 : Bk (w3.alloc (.cells #[.int .i64 (-100000), .int .i64 100000] 3)) w3.heap.size #[.int .i64 (-100000), .int .i64 100000] 3 := Bk.new _ _ rfl
    have b4 := b3.alloc (.cells #[.int .i64 (-100000), .int .i64 100000] 3)
    have x4 := x3.alloc (.cells #[.int .i64 (-100000), .int .i64 100000] 3)
    go_wp2_with fail
    refine (pick_any hr4 (by omega) (by omega) _ (by omega) (by omega)).mono ?_
    rintro e w5 ⟨j, rfl, hj0, hj1, hr5, hx5⟩
    have b5 := b4.keepx hx5 (by omega)
    have t5 := t4.keepx hx5 (by omega)
    have x5 := x4.trans hx5
    obtain ⟨l0, l1, _, _⟩ := t5.two
    obtain ⟨q0, q1, q2, q3, q4⟩ := b5.five
    have f5 := b5.free 4
    clear hr3 b3 x3 hr4 t4 b4 x4 hx5
    rcases (show j = 0 ∨ j = 1 by omega) with rfl | rfl
    · have b6 := b5.set 4 (.int .i64 (-100000))
      have hr6 := hr5.apart (q := ⟨w1.heap.size, 4, none⟩) (by simp; omega) (by simp; omega) (.int .i64 (-100000))
      have x6 := x5.setNew (p := ⟨w1.heap.size, 4, none⟩) (by simp; omega) (.int .i64 (-100000))
      go_upto_region 12 with fail
      generalize (w5.setCell ⟨w1.heap.size, 4, none⟩ (.int .i64 (-100000))) = w6 at *
      have b6' : Bk w6 w1.heap.size #[.int .i64 K, .int .i64 V, .int .i64 A, .int .i64 B1, .int .i64 (-100000)] 55 := b6
      clear l0 l1 q0 q1 q2 q3 q4 f5 b5 t5 hr5 x5 b6
      obtain ⟨q0, q1, q2, q3, q4⟩ := b6'.five
      have RW : Hid (Rs w6 lv l) := HL.out _ x6
      have HX : Hid (∀ W, Below w6.heap.size w6 W → W.cell? ⟨w1.heap.size, 0, none⟩ = some (.int .i64 K) ∧ W.cell? ⟨w1.heap.size, 1, none⟩ = some (.int .i64 V) ∧ W.cell? ⟨w1.heap.size, 2, none⟩ = some (.int .i64 A) ∧ W.cell? ⟨w1.heap.size, 3, none⟩ = some (.int .i64 B1) ∧ W.cell? ⟨w1.heap.size, 4, none⟩ = some (.int .i64 (-100000))) :=
        fun W hW => (b6'.keep hW).five
      have xs := x6.size
      clear q0 q1 q2 q3 q4
      go_upto_region 12 with fail
      go_region_held3 (fun W => W.cell? ⟨w1.heap.size, 0, none⟩ = some (.int .i64 K) ∧ W.cell? ⟨w1.heap.size, 1, none⟩ = some (.int .i64 V) ∧ W.cell? ⟨w1.heap.size, 2, none⟩ = some (.int .i64 A) ∧ W.cell? ⟨w1.heap.size, 3, none⟩ = some (.int .i64 B1) ∧ W.cell? ⟨w1.heap.size, 4, none⟩ = some (.int .i64 (-100000)))
        (exact HX.out _ (by (repeat' (first | with_reducible exact Below.refl _ _ | with_reducible assumption | with_reducible refine bAlloc ?_ _ | with_reducible refine Below.drew ?_))))
        (first
          | (refine stepRs _ (by rfl) _ _ (by rfl) w6.heap.size (.slice (some ⟨_, 0, none⟩) 0 0) [] (by rfl) (by (repeat' (first | with_reducible assumption | with_reducible exact own_less (ownR_empty _ rfl) (by (simp <;> omega)) | with_reducible exact own_less (ownR_empty _ (by simp)) (by (simp <;> omega)) | with_reducible refine ownR_al ?_ | with_reducible refine ownR_dr ?_))) _ l (by rfl) (RW.out.keep (by (repeat' (first | with_reducible exact Below.refl _ _ | with_reducible assumption | with_reducible refine bAlloc ?_ _ | with_reducible refine Below.drew ?_)))) (by simp; omega) (by (simp <;> omega)) ?_; intro v4 w4 own4 hg4; have hb4 : Below w6.heap.size w6 w4 := Below.grew (by (repeat' (first | with_reducible exact Below.refl _ _ | with_reducible assumption | with_reducible refine bAlloc ?_ _ | with_reducible refine Below.drew ?_))) hg4 (by (simp <;> omega)) (fun k e => by simp [Value.ownBlock] at e; omega); have own4' : OwnR w4 w6.heap.size v4 l := own4)
          | (refine stepR _ (by rfl) _ _ (by rfl) w6.heap.size v4 l (by rfl) (by (repeat' (first | with_reducible assumption | with_reducible exact own_less (ownR_empty _ rfl) (by (simp <;> omega)) | with_reducible exact own_less (ownR_empty _ (by simp)) (by (simp <;> omega)) | with_reducible refine ownR_al ?_ | with_reducible refine ownR_dr ?_))) _ K V A B1 (-100000) (by rfl) (by (repeat' (first | with_reducible exact Bk.new _ _ rfl | with_reducible exact Bk.new _ _ (by (simp <;> omega)) | with_reducible refine Bk.drew ?_ | with_reducible refine Bk.alloc ?_ _ | with_reducible refine Bk.grew ?_ (by assumption) (fun k e => by simp [Value.ownBlock] at e; omega)))) (by omega) (by have := hb4.size; (simp <;> omega)) ?_; intro g9 cap9 w9 own9 hg9 hl9; have hb9 : Below w6.heap.size w6 w9 := Below.grew (by (repeat' (first | with_reducible exact Below.refl _ _ | with_reducible assumption | with_reducible refine bAlloc ?_ _ | with_reducible refine Below.drew ?_))) hg9 (by have := hb4.size; (simp <;> omega)) (ownK_base own4)))
      all_goals go_wp2_with fail
      all_goals go_ret
      all_goals exact ⟨_, l ++ [(((K, V), (A, B1)), (-100000))], rfl, by simp, rok_no (r := (((K, V), (A, B1)), (-100000))) (by simp) (bad_diff (by omega)), own_less own9 (by omega), ⟨(p1 + 1 + 1), by omega, by omega, hr6.keepb hb9⟩, x6.trans (Bx.of_below hb9)⟩
    · have b6 := b5.set 4 (.int .i64 (100000))
      have hr6 := hr5.apart (q := ⟨w1.heap.size, 4, none⟩) (by simp; omega) (by simp; omega) (.int .i64 (100000))
      have x6 := x5.setNew (p := ⟨w1.heap.size, 4, none⟩) (by simp; omega) (.int .i64 (100000))
      go_upto_region 12 with fail
      generalize (w5.setCell ⟨w1.heap.size, 4, none⟩ (.int .i64 (100000))) = w6 at *
      have b6' : Bk w6 w1.heap.size #[.int .i64 K, .int .i64 V, .int .i64 A, .int .i64 B1, .int .i64 (100000)] 55 := b6
      clear l0 l1 q0 q1 q2 q3 q4 f5 b5 t5 hr5 x5 b6
      obtain ⟨q0, q1, q2, q3, q4⟩ := b6'.five
      have RW : Hid (Rs w6 lv l) := HL.out _ x6
      have HX : Hid (∀ W, Below w6.heap.size w6 W → W.cell? ⟨w1.heap.size, 0, none⟩ = some (.int .i64 K) ∧ W.cell? ⟨w1.heap.size, 1, none⟩ = some (.int .i64 V) ∧ W.cell? ⟨w1.heap.size, 2, none⟩ = some (.int .i64 A) ∧ W.cell? ⟨w1.heap.size, 3, none⟩ = some (.int .i64 B1) ∧ W.cell? ⟨w1.heap.size, 4, none⟩ = some (.int .i64 (100000))) :=
        fun W hW => (b6'.keep hW).five
      have xs := x6.size
      clear q0 q1 q2 q3 q4
      go_upto_region 12 with fail
      go_region_held3 (fun W => W.cell? ⟨w1.heap.size, 0, none⟩ = some (.int .i64 K) ∧ W.cell? ⟨w1.heap.size, 1, none⟩ = some (.int .i64 V) ∧ W.cell? ⟨w1.heap.size, 2, none⟩ = some (.int .i64 A) ∧ W.cell? ⟨w1.heap.size, 3, none⟩ = some (.int .i64 B1) ∧ W.cell? ⟨w1.heap.size, 4, none⟩ = some (.int .i64 (100000)))
        (exact HX.out _ (by (repeat' (first | with_reducible exact Below.refl _ _ | with_reducible assumption | with_reducible refine bAlloc ?_ _ | with_reducible refine Below.drew ?_))))
        (first
          | (refine stepRs _ (by rfl) _ _ (by rfl) w6.heap.size (.slice (some ⟨_, 0, none⟩) 0 0) [] (by rfl) (by (repeat' (first | with_reducible assumption | with_reducible exact own_less (ownR_empty _ rfl) (by (simp <;> omega)) | with_reducible exact own_less (ownR_empty _ (by simp)) (by (simp <;> omega)) | with_reducible refine ownR_al ?_ | with_reducible refine ownR_dr ?_))) _ l (by rfl) (RW.out.keep (by (repeat' (first | with_reducible exact Below.refl _ _ | with_reducible assumption | with_reducible refine bAlloc ?_ _ | with_reducible refine Below.drew ?_)))) (by simp; omega) (by (simp <;> omega)) ?_; intro v4 w4 own4 hg4; have hb4 : Below w6.heap.size w6 w4 := Below.grew (by (repeat' (first | with_reducible exact Below.refl _ _ | with_reducible assumption | with_reducible refine bAlloc ?_ _ | with_reducible refine Below.drew ?_))) hg4 (by (simp <;> omega)) (fun k e => by simp [Value.ownBlock] at e; omega); have own4' : OwnR w4 w6.heap.size v4 l := own4)
          | (refine stepR _ (by rfl) _ _ (by rfl) w6.heap.size v4 l (by rfl) (by (repeat' (first | with_reducible assumption | with_reducible exact own_less (ownR_empty _ rfl) (by (simp <;> omega)) | with_reducible exact own_less (ownR_empty _ (by simp)) (by (simp <;> omega)) | with_reducible refine ownR_al ?_ | with_reducible refine ownR_dr ?_))) _ K V A B1 (100000) (by rfl) (by (repeat' (first | with_reducible exact Bk.new _ _ rfl | with_reducible exact Bk.new _ _ (by (simp <;> omega)) | with_reducible refine Bk.drew ?_ | with_reducible refine Bk.alloc ?_ _ | with_reducible refine Bk.grew ?_ (by assumption) (fun k e => by simp [Value.ownBlock] at e; omega)))) (by omega) (by have := hb4.size; (simp <;> omega)) ?_; intro g9 cap9 w9 own9 hg9 hl9; have hb9 : Below w6.heap.size w6 w9 := Below.grew (by (repeat' (first | with_reducible exact Below.refl _ _ | with_reducible assumption | with_reducible refine bAlloc ?_ _ | with_reducible refine Below.drew ?_))) hg9 (by have := hb4.size; (simp <;> omega)) (ownK_base own4)))
      all_goals go_wp2_with fail
      all_goals go_ret
      all_goals exact ⟨_, l ++ [(((K, V), (A, B1)), (100000))], rfl, by simp, rok_no (r := (((K, V), (A, B1)), (100000))) (by simp) (bad_diff (by omega)), own_less own9 (by omega), ⟨(p1 + 1 + 1), by omega, by omega, hr6.keepb hb9⟩, x6.trans (Bx.of_below hb9)⟩
  have e3 : (k == 3) = false := by simpa using h3
  obtain ⟨q0, q1, q2, q3, q4⟩ := b3.five
  have f00 := b3.free 3
  have b60 := b3.set 3 (.int .i64 (8))
  have hr60 := hr3.apart (q := ⟨w1.heap.size, 3, none⟩) (by simp; omega) (by simp; omega) (.int .i64 (8))
  have x60 := x3.setNew (p := ⟨w1.heap.size, 3, none⟩) (by simp; omega) (.int .i64 (8))
  go_upto_region 12 with fail
  generalize (w3.setCell ⟨w1.heap.size, 3, none⟩ (.int .i64 (8))) = w6 at *
  have b6' : Bk w6 w1.heap.size #[.int .i64 K, .int .i64 V, .int .i64 A, .int .i64 8, .int .i64 D] 55 := b60
  clear q0 q1 q2 q3 q4
  obtain ⟨q0, q1, q2, q3, q4⟩ := b6'.five
  have RW : Hid (Rs w6 lv l) := HL.out _ x60
  have HX : Hid (∀ W, Below w6.heap.size w6 W → W.cell? ⟨w1.heap.size, 0, none⟩ = some (.int .i64 K) ∧ W.cell? ⟨w1.heap.size, 1, none⟩ = some (.int .i64 V) ∧ W.cell? ⟨w1.heap.size, 2, none⟩ = some (.int .i64 A) ∧ W.cell? ⟨w1.heap.size, 3, none⟩ = some (.int .i64 8) ∧ W.cell? ⟨w1.heap.size, 4, none⟩ = some (.int .i64 D)) :=
    fun W hW => (b6'.keep hW).five
  have xs := x60.size
  clear q0 q1 q2 q3 q4
  go_upto_region 12 with fail
  go_region_held3 (fun W => W.cell? ⟨w1.heap.size, 0, none⟩ = some (.int .i64 K) ∧ W.cell? ⟨w1.heap.size, 1, none⟩ = some (.int .i64 V) ∧ W.cell? ⟨w1.heap.size, 2, none⟩ = some (.int .i64 A) ∧ W.cell? ⟨w1.heap.size, 3, none⟩ = some (.int .i64 8) ∧ W.cell? ⟨w1.heap.size, 4, none⟩ = some (.int .i64 D))
    (exact HX.out _ (by (repeat' (first | with_reducible exact Below.refl _ _ | with_reducible assumption | with_reducible refine bAlloc ?_ _ | with_reducible refine Below.drew ?_))))
    (first
      | (refine stepRs _ (by rfl) _ _ (by rfl) w6.heap.size (.slice (some ⟨_, 0, none⟩) 0 0) [] (by rfl) (by (repeat' (first | with_reducible assumption | with_reducible exact own_less (ownR_empty _ rfl) (by (simp <;> omega)) | with_reducible exact own_less (ownR_empty _ (by simp)) (by (simp <;> omega)) | with_reducible refine ownR_al ?_ | with_reducible refine ownR_dr ?_))) _ l (by rfl) (RW.out.keep (by (repeat' (first | with_reducible exact Below.refl _ _ | with_reducible assumption | with_reducible refine bAlloc ?_ _ | with_reducible refine Below.drew ?_)))) (by simp; omega) (by (simp <;> omega)) ?_; intro v4 w4 own4 hg4; have hb4 : Below w6.heap.size w6 w4 := Below.grew (by (repeat' (first | with_reducible exact Below.refl _ _ | with_reducible assumption | with_reducible refine bAlloc ?_ _ | with_reducible refine Below.drew ?_))) hg4 (by (simp <;> omega)) (fun k e => by simp [Value.ownBlock] at e; omega); have own4' : OwnR w4 w6.heap.size v4 l := own4)
      | (refine stepR _ (by rfl) _ _ (by rfl) w6.heap.size v4 l (by rfl) (by (repeat' (first | with_reducible assumption | with_reducible exact own_less (ownR_empty _ rfl) (by (simp <;> omega)) | with_reducible exact own_less (ownR_empty _ (by simp)) (by (simp <;> omega)) | with_reducible refine ownR_al ?_ | with_reducible refine ownR_dr ?_))) _ K V A 8 D (by rfl) (by (repeat' (first | with_reducible exact Bk.new _ _ rfl | with_reducible exact Bk.new _ _ (by (simp <;> omega)) | with_reducible refine Bk.drew ?_ | with_reducible refine Bk.alloc ?_ _ | with_reducible refine Bk.grew ?_ (by assumption) (fun k e => by simp [Value.ownBlock] at e; omega)))) (by omega) (by have := hb4.size; (simp <;> omega)) ?_; intro g9 cap9 w9 own9 hg9 hl9; have hb9 : Below w6.heap.size w6 w9 := Below.grew (by (repeat' (first | with_reducible exact Below.refl _ _ | with_reducible assumption | with_reducible refine bAlloc ?_ _ | with_reducible refine Below.drew ?_))) hg9 (by have := hb4.size; (simp <;> omega)) (ownK_base own4)))
  all_goals go_wp2_with fail
  all_goals go_ret
  all_goals exact ⟨_, l ++ [(((K, V), (A, 8)), D)], rfl, by simp, rok_no (r := (((K, V), (A, 8)), D)) (by simp) (bad_time (by omega)), own_less own9 (by omega), ⟨(p1 + 1), by omega, by omega, hr60.keepb hb9⟩, x60.trans (Bx.of_below hb9)⟩
end Go.Proofs.Ytlddhfimiignaaa
