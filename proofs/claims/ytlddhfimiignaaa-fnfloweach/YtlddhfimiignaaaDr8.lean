/- What the drawing of rows and a way, and of rows twice, answers: the contracts. -/
import Derived.Test.YtlddhfimiignaaaGd6
namespace Go.Proofs.Ytlddhfimiignaaa
open Go.RowKit

set_option maxRecDepth 100000 in
set_option maxHeartbeats 8000000 in
theorem drawFlowEach_any (a : Option Addr) (len cap : Nat) (w : World) (h : Src w (.slice a len cap) len) :
    Calls Try.prog 23 #[.slice a len cap] w fun e w' => ∃ (o : Value) (l : List Rw) (how : Int), e = .returned (.tuple #[o, .int .i64 how]) ∧ drR l ∧ Rs w' o l ∧ Below w.heap.size w w' := by
  go_enter Try.func23, Try.ntmps23
  go_wp2_with fail
  refine (l6Open_any _ _ _ _ h).mono ?_
  rintro e w1 ⟨rfl, ⟨v, n, hr1⟩, hb1⟩
  clear h
  have hs1 := hb1.size
  have hg := hr1.blk.lt
  go_wp2_with fail
  refine (l71Any_any hr1 (by omega) (by omega)).mono ?_
  rintro e w2 ⟨o, l, rfl, hd, hown, ⟨p1, hp1, hp2, hr2⟩, hx2⟩
  have HO : Hid (∀ W', Bx w.heap.size w2 W' → Rs W' o l) := fun W' hW => OwnR.rs (own_keepx hown hW hg) (by have := hd.1; omega)
  clear hown
  go_wp2_with fail
  refine (pick_any hr2 (by omega) (by omega) _ (by omega) (by omega)).mono ?_
  rintro e w3 ⟨k, rfl, hk0, hk1, hr3, hx3⟩
  have hb3 := (hx2.trans hx3).below hb1 hs1 (Nat.le_refl _)
  have hg3 := hr3.blk.lt
  have hs3 := hx3.size
  by_cases hk : k = 0
  · subst hk
    go_wp2_with fail
    refine wp_region_inv (by kernel_rfl) (WayI w.heap.size w.heap.size n v o (p1 + 1) w3) ?hg ?hs ?h0 ?hstep ?hend
    case hg =>
      intro i op ho
      have hi : i < 8 := (Array.getElem?_eq_some_iff.1 ho).1
      obtain rfl | rfl | rfl | rfl | rfl | rfl | rfl | rfl : i = 0 ∨ i = 1 ∨ i = 2 ∨ i = 3 ∨ i = 4 ∨ i = 5 ∨ i = 6 ∨ i = 7 := by omega
      all_goals cases ho; rfl
    case hs => intro L a W hI; exact hI.1
    case h0 =>
      refine ⟨by simp, fun _ => hr3.keepb (Below.refl _ _).drew, (Bx.refl _ _).drew, _, _, _, _, _, _, _, _, _, _, _, _, _, _, _, _, _, _, _, _, _, rfl, ?_⟩
      constructor <;> (intro e; simp at e)
    case hend =>
      rintro L a W ⟨hLs, hR, hx, z0, z1, t2, t3, z6, z7, z8, z9, z10, z11, z12, t13, t14, t15, t16, t17, t18, z19, z20, z21, z22, rfl, S⟩ hr
      have hall : ∀ j, j < 8 → L.getD j false = true := by
        refine all_listed2 (by simpa using hLs) ?_ hr
        intro i op ho
        have hi : i < 8 := (Array.getElem?_eq_some_iff.1 ho).1
        obtain rfl | rfl | rfl | rfl | rfl | rfl | rfl | rfl : i = 0 ∨ i = 1 ∨ i = 2 ∨ i = 3 ∨ i = 4 ∨ i = 5 ∨ i = 6 ∨ i = 7 := by omega
        all_goals cases ho
        all_goals (first | (simp; done) | (simp [Region.binds]; done) | decide)
      have e2 := S.s6 (hall 6 (by omega))
      subst e2
      obtain ⟨V, rfl⟩ := S.s7 (hall 7 (by omega))
      clear S
      go_wp2_with fail
      refine bodyPost_ret (by simp [results, Try.results23, go_sem]; try rfl) rfl ?_
      exact ⟨_, l, V, rfl, hd, HO.out _ (hx3.trans hx), hx.below hb3 (by omega) (by omega)⟩
    case hstep =>
      rintro L a W i op ⟨hLs, hR, hx, z0, z1, t2, t3, z6, z7, z8, z9, z10, z11, z12, t13, t14, t15, t16, t17, t18, z19, z20, z21, z22, rfl, S⟩ hi ho
      obtain ⟨hun, o', ho', hall⟩ := mem_ready.1 hi
      rw [ho] at ho'
      cases ho'
      have hi8 : i < 8 := (Array.getElem?_eq_some_iff.1 ho).1
      clear hi
      generalize hK : (fun a' w' => WayI w.heap.size w.heap.size n v o (p1 + 1) w3 (L.setIfInBounds i true) a' w') = K
      obtain rfl | rfl | rfl | rfl | rfl | rfl | rfl | rfl : i = 0 ∨ i = 1 ∨ i = 2 ∨ i = 3 ∨ i = 4 ∨ i = 5 ∨ i = 6 ∨ i = 7 := by omega
      · cases ho
        go_simp
        subst hK
        exact wayI_next hLs hx (Bx.refl _ _) (fun e => hR (getD_setT (by decide) e)) (S.put0 rfl)
      · cases ho
        have hgW : w.heap.size < W.heap.size := Nat.lt_of_lt_of_le hg3 hx.size
        have hxa : Bx w.heap.size W (W.alloc (.cells wayA 3)) := (Bx.refl _ _).alloc _
        go_simp
        subst hK
        exact wayI_next hLs hx hxa (fun e => (hR (getD_setT (by decide) e)).keepb (bAlloc (Below.refl _ _) _)) ((S.keep hxa).put1 ⟨W.heap.size, by omega, Bk.new _ _ rfl, rfl⟩)
      · cases ho
        go_simp
        subst hK
        exact wayI_next hLs hx (Bx.refl _ _) (fun e => hR (getD_setT (by decide) e)) (S.put2 rfl)
      · cases ho
        have e2 := S.s2 (hall ⟨2, .data⟩ (by simp) rfl)
        subst e2
        go_simp
        refine (pick_any (hR hun) (by omega) (by omega) _ (by omega) (by omega)).mono ?_
        rintro e W1 ⟨k, rfl, hk0, hk1, hR1, hx1⟩
        obtain ⟨j, rfl⟩ := Int.eq_ofNat_of_zero_le hk0
        subst hK
        exact wayI_next hLs hx hx1 (fun e => by simp [hLs] at e) ((S.keep hx1).put3 ⟨j, by omega, rfl⟩)
      · cases ho
        obtain ⟨b, hb2, hb3, rfl⟩ := S.s1 (hall ⟨1, .data⟩ (by simp) rfl)
        obtain ⟨j, hj, rfl⟩ := S.s3 (hall ⟨3, .data⟩ (by simp) rfl)
        have hj' : ((j : Int) < 3) := by omega
        go_simp
        subst hK
        exact wayI_next hLs hx (Bx.refl _ _) (fun e => hR (getD_setT (by decide) e)) (S.put4 ⟨b, j, hb2, hj, hb3, rfl⟩)
      · cases ho
        obtain ⟨b, j, hb2, hj, hb3, rfl⟩ := S.s4 (hall ⟨4, .data⟩ (by simp) rfl)
        obtain ⟨V, hV⟩ := way_at hj
        have hc := hb3.cell hV
        go_simp
        subst hK
        exact wayI_next hLs hx (Bx.refl _ _) (fun e => hR (getD_setT (by decide) e)) (S.put5 ⟨V, rfl⟩)
      · cases ho
        have e0 := S.s0 (hall ⟨0, .data⟩ (by simp) rfl)
        subst e0
        go_simp
        subst hK
        exact wayI_next hLs hx (Bx.refl _ _) (fun e => hR (getD_setT (by decide) e)) (S.put6 rfl)
      · cases ho
        obtain ⟨V, rfl⟩ := S.s5 (hall ⟨5, .data⟩ (by simp) rfl)
        go_simp
        subst hK
        exact wayI_next hLs hx (Bx.refl _ _) (fun e => hR (getD_setT (by decide) e)) (S.put7 ⟨V, rfl⟩)
  have hkb : (k == 0) = false := by simpa using hk
  go_wp2_with fail
  refine (pick_any hr3 (by omega) (by omega) _ (by omega) (by omega)).mono ?_
  rintro e w4 ⟨k4, rfl, hk40, hk41, hr4, hx4⟩
  have hsum : IntKind.i64.wrap (1 + k4) = 1 + k4 := by rw [IntKind.wrap_i64]; omega
  go_wp2_with fail
  refine bodyPost_ret (v := .tuple #[o, .int .i64 (1 + k4)]) (by simp [results, Try.results23, go_sem]) rfl ?_
  exact ⟨o, l, _, rfl, hd, HO.out _ (hx3.trans hx4), hx4.below hb3 (by omega) (Nat.le_refl _)⟩
set_option maxHeartbeats 2000000 in
theorem drawFlowJoin_any (a : Option Addr) (len cap : Nat) (w : World) (h : Src w (.slice a len cap) len) :
    Calls Try.prog 31 #[.slice a len cap] w fun e w' => ∃ (o o' : Value) (l l' : List Rw), e = .returned (.tuple #[o, o']) ∧ drR l ∧ drR l' ∧ Rs w' o l ∧ Rs w' o' l' ∧ Below w.heap.size w w' := by
  go_enter Try.func31, Try.ntmps31
  go_wp2_with fail
  refine (drawBatchBoth_any a len cap w h).mono ?_
  rintro e w1 ⟨o, o', l, l', rfl, h1, h2, h3, h4, h5⟩
  go_wp2_with fail
  refine bodyPost_ret (by simp [results, Try.results31, go_sem]; try rfl) rfl ?_
  exact ⟨o, o', l, l', rfl, h1, h2, h3, h4, h5⟩
end Go.Proofs.Ytlddhfimiignaaa
