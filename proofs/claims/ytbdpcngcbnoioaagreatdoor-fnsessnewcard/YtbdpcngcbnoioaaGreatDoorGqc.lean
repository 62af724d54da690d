import Derived.Test.YtbdpcngcbnoioaaGreatDoorGqa
import Derived.Test.YtbdpcngcbnoioaaGreatDoorGmr
import Derived.Test.YtbdpcngcbnoioaaGreatDoorGb0
namespace Go.Proofs.YtbdpcngcbnoioaaGreatDoor
open Go.RowKit Go.Shelf
attribute [local go_sem ↓] Go.wp_at_zero Go.wp_at_succ
set_option maxRecDepth 100000 in
set_option maxHeartbeats 16000000 in
theorem allMade_any (ea : Addr) {s : SS} {sp si sf sd : Value} {w : World} (hsm : s.t.sm) (h : Ses w sp si sf sd s) (hg : w.cell? ⟨0, 0, none⟩ = some (erV ea)) :
    Calls Tryz.prog 79 #[sv s.t.k s.t.n sp si sf sd] w fun e w' => ∃ (a : Option Addr) (c : Nat), e = .returned (.tuple #[.slice a ((allS s).getD []).length c, .bool (allS s).isSome]) ∧ Rs w' (.slice a ((allS s).getD []).length c) ((allS s).getD []) ∧ Below w.heap.size w w' := by
  obtain ⟨a0, c0, a1, c1, a2, c2, a3, c3, rfl, rfl, rfl, rfl⟩ := h.sl
  have bS : Bk (w.alloc (.cells (sc s.t.k s.t.n (.slice a0 s.t.len c0) (.slice a1 s.K.length c1) (.slice a2 s.f.length c2) (.slice a3 s.d.length c3)) 30)) w.heap.size (sc s.t.k s.t.n (.slice a0 s.t.len c0) (.slice a1 s.K.length c1) (.slice a2 s.f.length c2) (.slice a3 s.d.length c3)) 30 := Bk.new _ _ rfl
  have hb0 : Below w.heap.size w (w.alloc (.cells (sc s.t.k s.t.n (.slice a0 s.t.len c0) (.slice a1 s.K.length c1) (.slice a2 s.f.length c2) (.slice a3 s.d.length c3)) 30)) := bAlloc (Below.refl _ _) _
  have hS := h.keep hb0
  have hg0 := cell_below hb0 hg
  have HM := (show Hid (s.t.sm) from hsm)
  obtain ⟨x0, x1, x2, x3, x4, x5⟩ := bS.six
  clear h hsm
  cases hf : fokB s.f
  · have HN : Hid (allS s = none) := by show _ = _; unfold allS; rw [hf]; rfl
    go_enter Tryz.func79, Tryz.ntmps79
    go_wp2_with fail
    generalize (w.alloc (.cells (sc s.t.k s.t.n (.slice a0 s.t.len c0) (.slice a1 s.K.length c1) (.slice a2 s.f.length c2) (.slice a3 s.d.length c3)) 30)) = W0 at *
    refine (implFrontOk_eq hf hS.ts).mono ?_
    rintro e w1 ⟨rfl, hb1⟩
    have hbw := bStep hb0 hb1
    clear x0 x1 x2 x3 x4 x5
    go_wp2_with fail
    go_ret2
    rw [HN.out]
    exact ⟨none, 0, rfl, OwnR.rs (ownK_nil rowC 5 55 _ 0) (by simp), hbw⟩
  go_enter Tryz.func79, Tryz.ntmps79
  go_wp2_with fail
  generalize (w.alloc (.cells (sc s.t.k s.t.n (.slice a0 s.t.len c0) (.slice a1 s.K.length c1) (.slice a2 s.f.length c2) (.slice a3 s.d.length c3)) 30)) = W0 at *
  refine (implFrontOk_eq hf hS.ts).mono ?_
  rintro e w1 ⟨rfl, hb1⟩
  have hS1 := hS.keep hb1
  have bS1 := bS.keep hb1
  have hbw1 := bStep hb0 hb1
  have hg1 := cell_below hb1 hg0
  have HFK := (show Hid (fokB s.f = true) from hf)
  clear x0 x1 x2 x3 x4 x5 hS bS hb0 hb1 hg0 hf
  obtain ⟨x0, x1, x2, x3, x4, x5⟩ := bS1.six
  rcases hfl : flowR s.t s.K with _ | r
  · have HN : Hid (allS s = none) := by show _ = _; unfold allS; rw [HFK.out, hfl]; rfl
    have HF := (show Hid _ from hfl)
    clear hfl
    go_wp2_with fail
    refine (implFlow_no ea HF.out HM.out hS1.kd hS1.ly hg1).mono ?_
    rintro e w2 ⟨o2, rfl, r2, hb2⟩
    have hbw2 := bStep hbw1 hb2
    clear x0 x1 x2 x3 x4 x5
    go_wp2_with fail
    go_quiet (fail)
    have hbq : Below w.heap.size w (w2.drewN nq) := bDrewN hbw2 _
    go_wp2_with fail
    go_ret2
    rw [HN.out]
    exact ⟨none, 0, rfl, OwnR.rs (ownK_nil rowC 5 55 _ 0) (by simp), hbq⟩
  · have HF := (show Hid (flowR s.t s.K = some r) from hfl)
    have hrl := flowR_len hfl
    clear hfl
    go_wp2_with fail
    refine (implFlow_yes ea HF.out HM.out hS1.kd hS1.ly hg1).mono ?_
    rintro e w2 ⟨o2, rfl, r2, hb2⟩
    have hS2 := hS1.keep hb2
    have bS2 := bS1.keep hb2
    have hbw2 := bStep hbw1 hb2
    have HR2 := (show Hid (Rs w2 o2 r) from r2)
    have hcur : Below w2.heap.size w2 w2.drew := (Below.refl _ _).drew
    have HX : Hid (∀ V : World, Below w2.heap.size w2 V → V.cell? ⟨w.heap.size, 0, none⟩ = some (.int .i64 s.t.k) ∧ V.cell? ⟨w.heap.size, 1, none⟩ = some (.int .i64 s.t.n) ∧ V.cell? ⟨w.heap.size, 2, none⟩ = some (.slice a0 s.t.len c0) ∧ V.cell? ⟨w.heap.size, 3, none⟩ = some (.slice a1 s.K.length c1) ∧ V.cell? ⟨w.heap.size, 4, none⟩ = some (.slice a2 s.f.length c2) ∧ V.cell? ⟨w.heap.size, 5, none⟩ = some (.slice a3 s.d.length c3)) := fun V hV => (bS2.keep hV).six
    have HQ : Hid (∀ V : World, Below w2.heap.size w2 V → Rs V o2 r ∧ Rs V (.slice a3 s.d.length c3) s.d ∧ Ts V (.slice a2 s.f.length c2) s.f) := fun V hV => ⟨r2.keep hV, (hS2.keep hV).rs, (hS2.keep hV).ts⟩
    have hal := ahead_len s.f r
    have hr6 : r.length ≤ 1000000 := by omega
    clear x0 x1 x2 x3 x4 x5 hS1 bS1 hS2 bS2 r2 hbw1 hb2 hg1
    obtain ⟨x0, x1, x2, x3, x4, x5⟩ := HX.out _ (Below.refl _ _)
    by_cases hd : aheadL s.f r = s.d
    · have HN : Hid (allS s = some r) := allS_some.2 ⟨HFK.out, HF.out, hd⟩
      have HE : Hid (decide (s.d = aheadL s.f r) = true) := decide_eq_true hd.symm
      clear hd
      go_wp2_with fail
      go_region_held3 (fun V => V.cell? ⟨w.heap.size, 0, none⟩ = some (.int .i64 s.t.k) ∧ V.cell? ⟨w.heap.size, 1, none⟩ = some (.int .i64 s.t.n) ∧ V.cell? ⟨w.heap.size, 2, none⟩ = some (.slice a0 s.t.len c0) ∧ V.cell? ⟨w.heap.size, 3, none⟩ = some (.slice a1 s.K.length c1) ∧ V.cell? ⟨w.heap.size, 4, none⟩ = some (.slice a2 s.f.length c2) ∧ V.cell? ⟨w.heap.size, 5, none⟩ = some (.slice a3 s.d.length c3))
        (first | exact HX.out _ hcur | exact HX.out _ hcA | exact HX.out _ hcB)
        (first
          | (go_at_call 83; with_reducible refine (aheadOf_any _ _ s.f r _ (HQ.out _ hcur).2.2 (HQ.out _ hcur).1 hr6).mono ?_; rintro e wA ⟨oA, rfl, ownA, hbA⟩; have hcA : Below w2.heap.size w2 wA := bStep hcur hbA; have rA := OwnR.rs ownA (by omega))
          | (go_at_call 152; with_reducible refine (equalR_eq HE.out (HQ.out _ hcA).2.1 rA).mono ?_; rintro e wB ⟨rfl, hbB⟩; have hcB : Below w2.heap.size w2 wB := bStep hcA hbB))
      all_goals
        have hbw3 := bStep hbw2 hcB
        have hrB := (HQ.out _ hcB).1
        obtain ⟨ao, co, eo, -⟩ := Rs.open hrB
        subst eo
        go_wp2_with fail
        go_ret2
        rw [HN.out]
        exact ⟨ao, co, rfl, hrB, hbw3⟩
    · have HN : Hid (allS s = none) := by
        show _ = _
        rcases ha : allS s with _ | r'
        · rfl
        · obtain ⟨-, h2, h3⟩ := allS_some.1 ha
          rw [HF.out] at h2; cases h2; exact absurd h3 hd
      have HE : Hid (decide (s.d = aheadL s.f r) = false) := decide_eq_false fun e => hd e.symm
      clear hd
      go_wp2_with fail
      go_region_held3 (fun V => V.cell? ⟨w.heap.size, 0, none⟩ = some (.int .i64 s.t.k) ∧ V.cell? ⟨w.heap.size, 1, none⟩ = some (.int .i64 s.t.n) ∧ V.cell? ⟨w.heap.size, 2, none⟩ = some (.slice a0 s.t.len c0) ∧ V.cell? ⟨w.heap.size, 3, none⟩ = some (.slice a1 s.K.length c1) ∧ V.cell? ⟨w.heap.size, 4, none⟩ = some (.slice a2 s.f.length c2) ∧ V.cell? ⟨w.heap.size, 5, none⟩ = some (.slice a3 s.d.length c3))
        (first | exact HX.out _ hcur | exact HX.out _ hcA | exact HX.out _ hcB)
        (first
          | (go_at_call 83; with_reducible refine (aheadOf_any _ _ s.f r _ (HQ.out _ hcur).2.2 (HQ.out _ hcur).1 hr6).mono ?_; rintro e wA ⟨oA, rfl, ownA, hbA⟩; have hcA : Below w2.heap.size w2 wA := bStep hcur hbA; have rA := OwnR.rs ownA (by omega))
          | (go_at_call 152; with_reducible refine (equalR_eq HE.out (HQ.out _ hcA).2.1 rA).mono ?_; rintro e wB ⟨rfl, hbB⟩; have hcB : Below w2.heap.size w2 wB := bStep hcA hbB))
      all_goals
        have hbw3 := bStep hbw2 hcB
        go_wp2_with fail
        go_ret2
        rw [HN.out]
        exact ⟨none, 0, rfl, OwnR.rs (ownK_nil rowC 5 55 _ 0) (by simp), hbw3⟩
set_option maxRecDepth 100000 in
set_option maxHeartbeats 8000000 in
theorem implSessOk_any (ea : Addr) {s : SS} {sp si sf sd : Value} {w : World} (hsm : s.t.sm) (h : Ses w sp si sf sd s) (hg : w.cell? ⟨0, 0, none⟩ = some (erV ea)) :
    Calls Tryz.prog 35 #[sv s.t.k s.t.n sp si sf sd] w fun e w' => e = .returned (.bool (allS s).isSome) ∧ Below w.heap.size w w' := by
  obtain ⟨a0, c0, a1, c1, a2, c2, a3, c3, rfl, rfl, rfl, rfl⟩ := h.sl
  have bS : Bk (w.alloc (.cells (sc s.t.k s.t.n (.slice a0 s.t.len c0) (.slice a1 s.K.length c1) (.slice a2 s.f.length c2) (.slice a3 s.d.length c3)) 30)) w.heap.size (sc s.t.k s.t.n (.slice a0 s.t.len c0) (.slice a1 s.K.length c1) (.slice a2 s.f.length c2) (.slice a3 s.d.length c3)) 30 := Bk.new _ _ rfl
  have hb0 : Below w.heap.size w (w.alloc (.cells (sc s.t.k s.t.n (.slice a0 s.t.len c0) (.slice a1 s.K.length c1) (.slice a2 s.f.length c2) (.slice a3 s.d.length c3)) 30)) := bAlloc (Below.refl _ _) _
  have hS := h.keep hb0
  have hg0 := cell_below hb0 hg
  obtain ⟨x0, x1, x2, x3, x4, x5⟩ := bS.six
  go_enter Tryz.func35, Tryz.ntmps35
  go_wp2_with fail
  refine (allMade_any ea hsm hS hg0).mono ?_
  rintro e w1 ⟨ao, co, rfl, r1, hb1⟩
  have hbw := bStep hb0 hb1
  go_wp2_with fail
  go_ret
  exact ⟨rfl, hbw⟩
theorem implSessOk_eq (ea : Addr) {s : SS} {b : Bool} (he : (allS s).isSome = b) {sp si sf sd : Value} {w : World} (hsm : s.t.sm) (h : Ses w sp si sf sd s) (hg : w.cell? ⟨0, 0, none⟩ = some (erV ea)) :
    Calls Tryz.prog 35 #[sv s.t.k s.t.n sp si sf sd] w fun e w' => e = .returned (.bool b) ∧ Below w.heap.size w w' := by
  rw [← he]; exact implSessOk_any ea hsm h hg
end Go.Proofs.YtbdpcngcbnoioaaGreatDoor
namespace Go.Proofs.YtbdpcngcbnoioaaGreatDoor
open Go.RowKit Go.Shelf
attribute [local go_sem ↓] Go.wp_at_zero Go.wp_at_succ
theorem atS_some {s : SS} {x y : Int} (h : (allS s).isSome = true) (hx : okB x y = true) (hc : covB s.f x y = false) : atS s x y = some (itemsL s.d x y) := by
  unfold atS; rw [h, hx, hc]; rfl
theorem atS_no {s : SS} {x y : Int} (h : (allS s).isSome = false ∨ okB x y = false ∨ covB s.f x y = true) : atS s x y = none := by
  unfold atS; rcases h with h | h | h <;> simp [h]
set_option maxRecDepth 100000 in
set_option maxHeartbeats 16000000 in
theorem implSessAt_any (ea : Addr) {s : SS} {sp si sf sd : Value} {w : World} (x y : Int) (hsm : s.t.sm) (h : Ses w sp si sf sd s) (hg : w.cell? ⟨0, 0, none⟩ = some (erV ea)) :
    Calls Tryz.prog 16 #[sv s.t.k s.t.n sp si sf sd, tv x y] w fun e w' => ∃ (a : Option Addr) (c : Nat), e = .returned (.tuple #[.slice a ((atS s x y).getD []).length c, .bool (atS s x y).isSome]) ∧ Is w' (.slice a ((atS s x y).getD []).length c) ((atS s x y).getD []) ∧ Below w.heap.size w w' := by
  obtain ⟨a0, c0, a1, c1, a2, c2, a3, c3, rfl, rfl, rfl, rfl⟩ := h.sl
  have bS : Bk ((w.alloc (.cells (sc s.t.k s.t.n (.slice a0 s.t.len c0) (.slice a1 s.K.length c1) (.slice a2 s.f.length c2) (.slice a3 s.d.length c3)) 30)).alloc (.cells #[.int .i64 x, .int .i64 y] 32)) w.heap.size (sc s.t.k s.t.n (.slice a0 s.t.len c0) (.slice a1 s.K.length c1) (.slice a2 s.f.length c2) (.slice a3 s.d.length c3)) 30 := (Bk.new _ _ rfl).alloc _
  have bT : Bk ((w.alloc (.cells (sc s.t.k s.t.n (.slice a0 s.t.len c0) (.slice a1 s.K.length c1) (.slice a2 s.f.length c2) (.slice a3 s.d.length c3)) 30)).alloc (.cells #[.int .i64 x, .int .i64 y] 32)) (w.heap.size + 1) #[.int .i64 x, .int .i64 y] 32 := Bk.new _ _ (by simp)
  have hb0 : Below w.heap.size w ((w.alloc (.cells (sc s.t.k s.t.n (.slice a0 s.t.len c0) (.slice a1 s.K.length c1) (.slice a2 s.f.length c2) (.slice a3 s.d.length c3)) 30)).alloc (.cells #[.int .i64 x, .int .i64 y] 32)) := bAlloc (bAlloc (Below.refl _ _) _) _
  have hS := h.keep hb0
  have hg0 := cell_below hb0 hg
  obtain ⟨x0, x1, x2, x3, x4, x5⟩ := bS.six
  obtain ⟨t0, t1, _, _⟩ := bT.two
  clear h
  cases hok : (allS s).isSome
  · have HN : Hid (atS s x y = none) := atS_no (.inl hok)
    go_enter Tryz.func16, Tryz.ntmps16
    go_wp2_with fail
    generalize ((w.alloc (.cells (sc s.t.k s.t.n (.slice a0 s.t.len c0) (.slice a1 s.K.length c1) (.slice a2 s.f.length c2) (.slice a3 s.d.length c3)) 30)).alloc (.cells #[.int .i64 x, .int .i64 y] 32)) = W0 at *
    refine (implSessOk_eq ea hok hsm hS hg0).mono ?_
    rintro e w1 ⟨rfl, hb1⟩
    have hbw := bStep hb0 hb1
    clear x0 x1 x2 x3 x4 x5 t0 t1
    go_wp2_with fail
    go_ret2
    rw [HN.out]
    exact ⟨none, 0, rfl, OwnI.is (ownK_nil itC 3 98 _ 0) (by simp), hbw⟩
  cases hx : okB x y
  · have HN : Hid (atS s x y = none) := atS_no (.inr (.inl hx))
    go_enter Tryz.func16, Tryz.ntmps16
    go_wp2_with fail
    generalize ((w.alloc (.cells (sc s.t.k s.t.n (.slice a0 s.t.len c0) (.slice a1 s.K.length c1) (.slice a2 s.f.length c2) (.slice a3 s.d.length c3)) 30)).alloc (.cells #[.int .i64 x, .int .i64 y] 32)) = W0 at *
    refine (implSessOk_eq ea hok hsm hS hg0).mono ?_
    rintro e w1 ⟨rfl, hb1⟩
    have hbw1 := bStep hb0 hb1
    obtain ⟨t0', t1', _, _⟩ := (bT.keep hb1).two
    clear x0 x1 x2 x3 x4 x5 t0 t1
    go_wp2_with fail
    refine (implTimeOk_eq hx _).mono ?_
    rintro e w2 ⟨rfl, hb2⟩
    have hbw := bStep hbw1 hb2
    clear t0' t1'
    go_wp2_with fail
    go_ret2
    rw [HN.out]
    exact ⟨none, 0, rfl, OwnI.is (ownK_nil itC 3 98 _ 0) (by simp), hbw⟩
  cases hc : covB s.f x y
  · have HN : Hid (atS s x y = some (itemsL s.d x y)) := atS_some hok hx hc
    go_enter Tryz.func16, Tryz.ntmps16
    go_wp2_with fail
    generalize ((w.alloc (.cells (sc s.t.k s.t.n (.slice a0 s.t.len c0) (.slice a1 s.K.length c1) (.slice a2 s.f.length c2) (.slice a3 s.d.length c3)) 30)).alloc (.cells #[.int .i64 x, .int .i64 y] 32)) = W0 at *
    refine (implSessOk_eq ea hok hsm hS hg0).mono ?_
    rintro e w1 ⟨rfl, hb1⟩
    have hbw1 := bStep hb0 hb1
    have hS1 := hS.keep hb1
    have bS1 := bS.keep hb1
    have bT1 := bT.keep hb1
    clear x0 x1 x2 x3 x4 x5 t0 t1 hS bS bT
    obtain ⟨t0, t1, _, _⟩ := bT1.two
    go_wp2_with fail
    refine (implTimeOk_eq hx _).mono ?_
    rintro e w2 ⟨rfl, hb2⟩
    have hbw2 := bStep hbw1 hb2
    have hS2 := hS1.keep hb2
    have bS2 := bS1.keep hb2
    have bT2 := bT1.keep hb2
    clear t0 t1 hS1 bS1 bT1
    obtain ⟨x0, x1, x2, x3, x4, x5⟩ := bS2.six
    obtain ⟨t0, t1, _, _⟩ := bT2.two
    go_wp2_with fail
    refine (implCov_eq hc hS2.ts).mono ?_
    rintro e w3 ⟨rfl, hb3⟩
    have hbw3 := bStep hbw2 hb3
    have hS3 := hS2.keep hb3
    have bS3 := bS2.keep hb3
    have bT3 := bT2.keep hb3
    clear x0 x1 x2 x3 x4 x5 t0 t1 hS2 bS2 bT2
    obtain ⟨x0, x1, x2, x3, x4, x5⟩ := bS3.six
    obtain ⟨t0, t1, _, _⟩ := bT3.two
    go_wp2_with fail
    refine (implAt_k rfl hS3.rs).mono ?_
    rintro e w4 ⟨o4, rfl, is4, hb4⟩
    have hbw4 := bStep hbw3 hb4
    obtain ⟨ao, co, eo, -⟩ := Is.open is4
    subst eo
    clear x0 x1 x2 x3 x4 x5 t0 t1
    go_wp2_with fail
    go_ret2
    rw [HN.out]
    exact ⟨ao, co, rfl, is4, hbw4⟩
  · have HN : Hid (atS s x y = none) := atS_no (.inr (.inr hc))
    go_enter Tryz.func16, Tryz.ntmps16
    go_wp2_with fail
    generalize ((w.alloc (.cells (sc s.t.k s.t.n (.slice a0 s.t.len c0) (.slice a1 s.K.length c1) (.slice a2 s.f.length c2) (.slice a3 s.d.length c3)) 30)).alloc (.cells #[.int .i64 x, .int .i64 y] 32)) = W0 at *
    refine (implSessOk_eq ea hok hsm hS hg0).mono ?_
    rintro e w1 ⟨rfl, hb1⟩
    have hbw1 := bStep hb0 hb1
    have hS1 := hS.keep hb1
    have bS1 := bS.keep hb1
    have bT1 := bT.keep hb1
    clear x0 x1 x2 x3 x4 x5 t0 t1 hS bS bT
    obtain ⟨t0, t1, _, _⟩ := bT1.two
    go_wp2_with fail
    refine (implTimeOk_eq hx _).mono ?_
    rintro e w2 ⟨rfl, hb2⟩
    have hbw2 := bStep hbw1 hb2
    have hS2 := hS1.keep hb2
    have bS2 := bS1.keep hb2
    have bT2 := bT1.keep hb2
    clear t0 t1 hS1 bS1 bT1
    obtain ⟨x0, x1, x2, x3, x4, x5⟩ := bS2.six
    obtain ⟨t0, t1, _, _⟩ := bT2.two
    go_wp2_with fail
    refine (implCov_eq hc hS2.ts).mono ?_
    rintro e w3 ⟨rfl, hb3⟩
    have hbw := bStep hbw2 hb3
    clear x0 x1 x2 x3 x4 x5 t0 t1
    go_wp2_with fail
    go_ret2
    rw [HN.out]
    exact ⟨none, 0, rfl, OwnI.is (ownK_nil itC 3 98 _ 0) (by simp), hbw⟩
end Go.Proofs.YtbdpcngcbnoioaaGreatDoor
