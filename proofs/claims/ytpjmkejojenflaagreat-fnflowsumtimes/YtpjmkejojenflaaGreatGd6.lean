/- What the drawing of items and a way answers: the contract. -/
import Derived.Test.YtpjmkejojenflaaGreatGd4
import Derived.Test.YtpjmkejojenflaaGreatGa1
/-! What the drawing of items and a way answers: the contract. -/
namespace Go.Proofs.YtpjmkejojenflaaGreat
open Go.RowKit

abbrev wayA : Array Value := #[.int .i64 0, .int .i64 8, .int .i64 (-1)]
theorem way_at {j : Nat} (h : j < 3) : ∃ V : Int, wayA[j]? = some (.int .i64 V) := by
  obtain rfl | rfl | rfl : j = 0 ∨ j = 1 ∨ j = 2 := by omega
  all_goals exact ⟨_, rfl⟩
theorem all_listed2 {ops : Array Oper} {L : Array Bool} (hs : L.size = ops.size) (hl : ∀ (i : Nat) (o : Oper), ops[i]? = some o → ∀ e ∈ o.after, Region.binds .any e = true → e.on < i) (hr : Region.ready .any ops L = []) : ∀ j, j < ops.size → L.getD j false = true := by
  intro j
  induction j using Nat.strongRecOn with
  | _ j ih =>
    intro hj
    cases e : L.getD j false
    · exfalso
      have hm : j ∈ Region.ready .any ops L := mem_ready.2 ⟨by
        simp only [Array.getD_eq_getD_getElem?, Array.getElem?_eq_getElem (show j < L.size by omega)] at e ⊢
        exact e, ops[j], Array.getElem?_eq_getElem hj, fun x hx hb => ih x.on (hl j _ (Array.getElem?_eq_getElem hj) x hx hb) (by have := hl j _ (Array.getElem?_eq_getElem hj) x hx hb; omega)⟩
      rw [hr] at hm; cases hm
    · rfl
/-- What each operation of the region that has come up has left. -/
structure WayS (g : Nat) (o : Value) (L : Array Bool) (W : World) (t13 t14 t15 t16 t17 t18 t2 t3 : Value) : Prop where
  s0 : L.getD 0 false = true → t13 = o
  s1 : L.getD 1 false = true → ∃ b : Nat, b ≠ g ∧ Bk W b wayA 3 ∧ t14 = .slice (some ⟨b, 0, none⟩) 3 3
  s2 : L.getD 2 false = true → t15 = .pointer (some ⟨g, 0, none⟩)
  s3 : L.getD 3 false = true → ∃ j : Nat, j < 3 ∧ t16 = .int .i64 j
  s4 : L.getD 4 false = true → ∃ b j : Nat, b ≠ g ∧ j < 3 ∧ Bk W b wayA 3 ∧ t17 = .pointer (some ⟨b, j, none⟩)
  s5 : L.getD 5 false = true → ∃ V : Int, t18 = .int .i64 V
  s6 : L.getD 6 false = true → t2 = o
  s7 : L.getD 7 false = true → ∃ V : Int, t3 = .int .i64 V
variable {g : Nat} {o : Value} {L : Array Bool} {W W' : World} {t13 t14 t15 t16 t17 t18 t2 t3 : Value}
theorem WayS.keep (h : WayS g o L W t13 t14 t15 t16 t17 t18 t2 t3) (hx : Bx g W W') : WayS g o L W' t13 t14 t15 t16 t17 t18 t2 t3 where
  s0 := h.s0
  s1 := fun e => by obtain ⟨b, h2, h3, h4⟩ := h.s1 e; exact ⟨b, h2, h3.keepx hx h2, h4⟩
  s2 := h.s2
  s3 := h.s3
  s4 := fun e => by obtain ⟨b, j, h2, h3, h4, h5⟩ := h.s4 e; exact ⟨b, j, h2, h3, h4.keepx hx h2, h5⟩
  s5 := h.s5
  s6 := h.s6
  s7 := h.s7
theorem WayS.put0 {u : Value} (h : WayS g o L W t13 t14 t15 t16 t17 t18 t2 t3) (hu : u = o) : WayS g o (L.setIfInBounds 0 true) W u t14 t15 t16 t17 t18 t2 t3 where
  s0 := fun _ => hu
  s1 := fun e => h.s1 (getD_set (by decide) e)
  s2 := fun e => h.s2 (getD_set (by decide) e)
  s3 := fun e => h.s3 (getD_set (by decide) e)
  s4 := fun e => h.s4 (getD_set (by decide) e)
  s5 := fun e => h.s5 (getD_set (by decide) e)
  s6 := fun e => h.s6 (getD_set (by decide) e)
  s7 := fun e => h.s7 (getD_set (by decide) e)
theorem WayS.put1 {u : Value} (h : WayS g o L W t13 t14 t15 t16 t17 t18 t2 t3) (hu : ∃ b : Nat, b ≠ g ∧ Bk W b wayA 3 ∧ u = .slice (some ⟨b, 0, none⟩) 3 3) : WayS g o (L.setIfInBounds 1 true) W t13 u t15 t16 t17 t18 t2 t3 where
  s0 := fun e => h.s0 (getD_set (by decide) e)
  s1 := fun _ => hu
  s2 := fun e => h.s2 (getD_set (by decide) e)
  s3 := fun e => h.s3 (getD_set (by decide) e)
  s4 := fun e => h.s4 (getD_set (by decide) e)
  s5 := fun e => h.s5 (getD_set (by decide) e)
  s6 := fun e => h.s6 (getD_set (by decide) e)
  s7 := fun e => h.s7 (getD_set (by decide) e)
theorem WayS.put2 {u : Value} (h : WayS g o L W t13 t14 t15 t16 t17 t18 t2 t3) (hu : u = .pointer (some ⟨g, 0, none⟩)) : WayS g o (L.setIfInBounds 2 true) W t13 t14 u t16 t17 t18 t2 t3 where
  s0 := fun e => h.s0 (getD_set (by decide) e)
  s1 := fun e => h.s1 (getD_set (by decide) e)
  s2 := fun _ => hu
  s3 := fun e => h.s3 (getD_set (by decide) e)
  s4 := fun e => h.s4 (getD_set (by decide) e)
  s5 := fun e => h.s5 (getD_set (by decide) e)
  s6 := fun e => h.s6 (getD_set (by decide) e)
  s7 := fun e => h.s7 (getD_set (by decide) e)
theorem WayS.put3 {u : Value} (h : WayS g o L W t13 t14 t15 t16 t17 t18 t2 t3) (hu : ∃ j : Nat, j < 3 ∧ u = .int .i64 j) : WayS g o (L.setIfInBounds 3 true) W t13 t14 t15 u t17 t18 t2 t3 where
  s0 := fun e => h.s0 (getD_set (by decide) e)
  s1 := fun e => h.s1 (getD_set (by decide) e)
  s2 := fun e => h.s2 (getD_set (by decide) e)
  s3 := fun _ => hu
  s4 := fun e => h.s4 (getD_set (by decide) e)
  s5 := fun e => h.s5 (getD_set (by decide) e)
  s6 := fun e => h.s6 (getD_set (by decide) e)
  s7 := fun e => h.s7 (getD_set (by decide) e)
theorem WayS.put4 {u : Value} (h : WayS g o L W t13 t14 t15 t16 t17 t18 t2 t3) (hu : ∃ b j : Nat, b ≠ g ∧ j < 3 ∧ Bk W b wayA 3 ∧ u = .pointer (some ⟨b, j, none⟩)) : WayS g o (L.setIfInBounds 4 true) W t13 t14 t15 t16 u t18 t2 t3 where
  s0 := fun e => h.s0 (getD_set (by decide) e)
  s1 := fun e => h.s1 (getD_set (by decide) e)
  s2 := fun e => h.s2 (getD_set (by decide) e)
  s3 := fun e => h.s3 (getD_set (by decide) e)
  s4 := fun _ => hu
  s5 := fun e => h.s5 (getD_set (by decide) e)
  s6 := fun e => h.s6 (getD_set (by decide) e)
  s7 := fun e => h.s7 (getD_set (by decide) e)
theorem WayS.put5 {u : Value} (h : WayS g o L W t13 t14 t15 t16 t17 t18 t2 t3) (hu : ∃ V : Int, u = .int .i64 V) : WayS g o (L.setIfInBounds 5 true) W t13 t14 t15 t16 t17 u t2 t3 where
  s0 := fun e => h.s0 (getD_set (by decide) e)
  s1 := fun e => h.s1 (getD_set (by decide) e)
  s2 := fun e => h.s2 (getD_set (by decide) e)
  s3 := fun e => h.s3 (getD_set (by decide) e)
  s4 := fun e => h.s4 (getD_set (by decide) e)
  s5 := fun _ => hu
  s6 := fun e => h.s6 (getD_set (by decide) e)
  s7 := fun e => h.s7 (getD_set (by decide) e)
theorem WayS.put6 {u : Value} (h : WayS g o L W t13 t14 t15 t16 t17 t18 t2 t3) (hu : u = o) : WayS g o (L.setIfInBounds 6 true) W t13 t14 t15 t16 t17 t18 u t3 where
  s0 := fun e => h.s0 (getD_set (by decide) e)
  s1 := fun e => h.s1 (getD_set (by decide) e)
  s2 := fun e => h.s2 (getD_set (by decide) e)
  s3 := fun e => h.s3 (getD_set (by decide) e)
  s4 := fun e => h.s4 (getD_set (by decide) e)
  s5 := fun e => h.s5 (getD_set (by decide) e)
  s6 := fun _ => hu
  s7 := fun e => h.s7 (getD_set (by decide) e)
theorem WayS.put7 {u : Value} (h : WayS g o L W t13 t14 t15 t16 t17 t18 t2 t3) (hu : ∃ V : Int, u = .int .i64 V) : WayS g o (L.setIfInBounds 7 true) W t13 t14 t15 t16 t17 t18 t2 u where
  s0 := fun e => h.s0 (getD_set (by decide) e)
  s1 := fun e => h.s1 (getD_set (by decide) e)
  s2 := fun e => h.s2 (getD_set (by decide) e)
  s3 := fun e => h.s3 (getD_set (by decide) e)
  s4 := fun e => h.s4 (getD_set (by decide) e)
  s5 := fun e => h.s5 (getD_set (by decide) e)
  s6 := fun e => h.s6 (getD_set (by decide) e)
  s7 := fun _ => hu
def WayI (g B n : Nat) (v o : Value) (p : Int) (w0 : World) (L : Array Bool) (a : Act) (W : World) : Prop :=
  L.size = 8 ∧ (L.getD 3 true = false → Rd B W g v n p) ∧ Bx g w0 W ∧ ∃ z0 z1 t2 t3 z6 z7 z8 z9 z10 z11 z12 t13 t14 t15 t16 t17 t18 z19 z20 z21 z22 : Value,
    a = { tmps := #[z0, z1, t2, t3, .pointer (some ⟨g, 0, none⟩), o, z6, z7, z8, z9, z10, z11, z12, t13, t14, t15, t16, t17, t18, z19, z20, z21, z22], defers := [] } ∧ WayS g o L W t13 t14 t15 t16 t17 t18 t2 t3
theorem wayI_next {B n i : Nat} {v : Value} {p : Int} {w0 : World} {z0 z1 z6 z7 z8 z9 z10 z11 z12 z19 z20 z21 z22 : Value} (hLs : L.size = 8) (hx : Bx g w0 W) (hxW : Bx g W W') (hR : (L.setIfInBounds i true).getD 3 true = false → Rd B W' g v n p) (S : WayS g o (L.setIfInBounds i true) W' t13 t14 t15 t16 t17 t18 t2 t3) :
    WayI g B n v o p w0 (L.setIfInBounds i true) { tmps := #[z0, z1, t2, t3, .pointer (some ⟨g, 0, none⟩), o, z6, z7, z8, z9, z10, z11, z12, t13, t14, t15, t16, t17, t18, z19, z20, z21, z22], defers := [] } W' :=
  ⟨by simp [hLs], hR, hx.trans hxW, _, _, _, _, _, _, _, _, _, _, _, _, _, _, _, _, _, _, _, _, _, rfl, S⟩
end Go.Proofs.YtpjmkejojenflaaGreat

/-! What the drawing of rows and a way, and of rows twice, answers: the contracts. -/
namespace Go.Proofs.YtpjmkejojenflaaGreat
open Go.RowKit

set_option maxRecDepth 100000 in
set_option maxHeartbeats 8000000 in
theorem drawFlowEach_any (a : Option Addr) (len cap : Nat) (w : World) (h : Src w (.slice a len cap) len) :
    Calls Tryz.prog 32 #[.slice a len cap] w fun e w' => ∃ (o : Value) (l : List Rw) (how : Int), e = .returned (.tuple #[o, .int .i64 how]) ∧ drR l ∧ Rs w' o l ∧ Below w.heap.size w w' := by
  go_enter Tryz.func32, Tryz.ntmps32
  go_wp2_with fail
  refine (l6Open_any _ _ _ _ h).mono ?_
  rintro e w1 ⟨rfl, ⟨v, n, hr1⟩, hb1⟩
  clear h
  have hs1 := hb1.size
  have hg := hr1.blk.lt
  go_wp2_with fail
  refine (l71Any_any hr1 (by omega) (by omega)).mono ?_
  rintro e w2 ⟨o, l, rfl, hd, hown, ⟨p1, hp1, hp2, hr2⟩, hx2⟩
  have HO : Hid (∀ W', Bx w.heap.size w2 W' → Rs W' o l) := fun W' hW => OwnR.rs (own_keepx hown hW hg) (by have := hd.1; omega)
  clear hown
  go_wp2_with fail
  refine (pick_any hr2 (by omega) (by omega) _ (by omega) (by omega)).mono ?_
  rintro e w3 ⟨k, rfl, hk0, hk1, hr3, hx3⟩
  have hb3 := (hx2.trans hx3).below hb1 hs1 (Nat.le_refl _)
  have hg3 := hr3.blk.lt
  have hs3 := hx3.size
  by_cases hk : k = 0
  · subst hk
    go_wp2_with fail
    refine wp_region_inv (by kernel_rfl) (WayI w.heap.size w.heap.size n v o (p1 + 1) w3) ?hg ?hs ?h0 ?hstep ?hend
    case hg =>
      intro i op ho
      have hi : i < 8 := (Array.getElem?_eq_some_iff.1 ho).1
      obtain rfl | rfl | rfl | rfl | rfl | rfl | rfl | rfl : i = 0 ∨ i = 1 ∨ i = 2 ∨ i = 3 ∨ i = 4 ∨ i = 5 ∨ i = 6 ∨ i = 7 := by omega
      all_goals cases ho; rfl
    case hs => intro L a W hI; exact hI.1
    case h0 =>
      refine ⟨by simp, fun _ => hr3.keepb (Below.refl _ _).drew, (Bx.refl _ _).drew, _, _, _, _, _, _, _, _, _, _, _, _, _, _, _, _, _, _, _, _, _, rfl, ?_⟩
      constructor <;> (intro e; simp at e)
    case hend =>
      rintro L a W ⟨hLs, hR, hx, z0, z1, t2, t3, z6, z7, z8, z9, z10, z11, z12, t13, t14, t15, t16, t17, t18, z19, z20, z21, z22, rfl, S⟩ hr
      have hall : ∀ j, j < 8 → L.getD j false = true := by
        refine all_listed2 (by simpa using hLs) ?_ hr
        intro i op ho
        have hi : i < 8 := (Array.getElem?_eq_some_iff.1 ho).1
        obtain rfl | rfl | rfl | rfl | rfl | rfl | rfl | rfl : i = 0 ∨ i = 1 ∨ i = 2 ∨ i = 3 ∨ i = 4 ∨ i = 5 ∨ i = 6 ∨ i = 7 := by omega
        all_goals cases ho
        all_goals (first | (simp; done) | (simp [Region.binds]; done) | decide)
      have e2 := S.s6 (hall 6 (by omega))
      subst e2
      obtain ⟨V, rfl⟩ := S.s7 (hall 7 (by omega))
      clear S
      go_wp2_with fail
      refine bodyPost_ret (by simp [results, Tryz.results32, go_sem]; try rfl) rfl ?_
      exact ⟨_, l, V, rfl, hd, HO.out _ (hx3.trans hx), hx.below hb3 (by omega) (by omega)⟩
    case hstep =>
      rintro L a W i op ⟨hLs, hR, hx, z0, z1, t2, t3, z6, z7, z8, z9, z10, z11, z12, t13, t14, t15, t16, t17, t18, z19, z20, z21, z22, rfl, S⟩ hi ho
      obtain ⟨hun, o', ho', hall⟩ := mem_ready.1 hi
      rw [ho] at ho'
      cases ho'
      have hi8 : i < 8 := (Array.getElem?_eq_some_iff.1 ho).1
      clear hi
      generalize hK : (fun a' w' => WayI w.heap.size w.heap.size n v o (p1 + 1) w3 (L.setIfInBounds i true) a' w') = K
      obtain rfl | rfl | rfl | rfl | rfl | rfl | rfl | rfl : i = 0 ∨ i = 1 ∨ i = 2 ∨ i = 3 ∨ i = 4 ∨ i = 5 ∨ i = 6 ∨ i = 7 := by omega
      · cases ho
        go_simp
        subst hK
        exact wayI_next hLs hx (Bx.refl _ _) (fun e => hR (getD_setT (by decide) e)) (S.put0 rfl)
      · cases ho
        have hgW : w.heap.size < W.heap.size := Nat.lt_of_lt_of_le hg3 hx.size
        have hxa : Bx w.heap.size W (W.alloc (.cells wayA 3)) := (Bx.refl _ _).alloc _
        go_simp
        subst hK
        exact wayI_next hLs hx hxa (fun e => (hR (getD_setT (by decide) e)).keepb (bAlloc (Below.refl _ _) _)) ((S.keep hxa).put1 ⟨W.heap.size, by omega, Bk.new _ _ rfl, rfl⟩)
      · cases ho
        go_simp
        subst hK
        exact wayI_next hLs hx (Bx.refl _ _) (fun e => hR (getD_setT (by decide) e)) (S.put2 rfl)
      · cases ho
        have e2 := S.s2 (hall ⟨2, .data⟩ (by simp) rfl)
        subst e2
        go_simp
        refine (pick_any (hR hun) (by omega) (by omega) _ (by omega) (by omega)).mono ?_
        rintro e W1 ⟨k, rfl, hk0, hk1, hR1, hx1⟩
        obtain ⟨j, rfl⟩ := Int.eq_ofNat_of_zero_le hk0
        subst hK
        exact wayI_next hLs hx hx1 (fun e => by simp [hLs] at e) ((S.keep hx1).put3 ⟨j, by omega, rfl⟩)
      · cases ho
        obtain ⟨b, hb2, hb3, rfl⟩ := S.s1 (hall ⟨1, .data⟩ (by simp) rfl)
        obtain ⟨j, hj, rfl⟩ := S.s3 (hall ⟨3, .data⟩ (by simp) rfl)
        have hj' : ((j : Int) < 3) := by omega
        go_simp
        subst hK
        exact wayI_next hLs hx (Bx.refl _ _) (fun e => hR (getD_setT (by decide) e)) (S.put4 ⟨b, j, hb2, hj, hb3, rfl⟩)
      · cases ho
        obtain ⟨b, j, hb2, hj, hb3, rfl⟩ := S.s4 (hall ⟨4, .data⟩ (by simp) rfl)
        obtain ⟨V, hV⟩ := way_at hj
        have hc := hb3.cell hV
        go_simp
        subst hK
        exact wayI_next hLs hx (Bx.refl _ _) (fun e => hR (getD_setT (by decide) e)) (S.put5 ⟨V, rfl⟩)
      · cases ho
        have e0 := S.s0 (hall ⟨0, .data⟩ (by simp) rfl)
        subst e0
        go_simp
        subst hK
        exact wayI_next hLs hx (Bx.refl _ _) (fun e => hR (getD_setT (by decide) e)) (S.put6 rfl)
      · cases ho
        obtain ⟨V, rfl⟩ := S.s5 (hall ⟨5, .data⟩ (by simp) rfl)
        go_simp
        subst hK
        exact wayI_next hLs hx (Bx.refl _ _) (fun e => hR (getD_setT (by decide) e)) (S.put7 ⟨V, rfl⟩)
  have hkb : (k == 0) = false := by simpa using hk
  go_wp2_with fail
  refine (pick_any hr3 (by omega) (by omega) _ (by omega) (by omega)).mono ?_
  rintro e w4 ⟨k4, rfl, hk40, hk41, hr4, hx4⟩
  have hsum : IntKind.i64.wrap (1 + k4) = 1 + k4 := by rw [IntKind.wrap_i64]; omega
  go_wp2_with fail
  refine bodyPost_ret (v := .tuple #[o, .int .i64 (1 + k4)]) (by simp [results, Tryz.results32, go_sem]) rfl ?_
  exact ⟨o, l, _, rfl, hd, HO.out _ (hx3.trans hx4), hx4.below hb3 (by omega) (Nat.le_refl _)⟩
set_option maxHeartbeats 2000000 in
theorem drawFlowJoin_any (a : Option Addr) (len cap : Nat) (w : World) (h : Src w (.slice a len cap) len) :
    Calls Tryz.prog 22 #[.slice a len cap] w fun e w' => ∃ (o o' : Value) (l l' : List Rw), e = .returned (.tuple #[o, o']) ∧ drR l ∧ drR l' ∧ Rs w' o l ∧ Rs w' o' l' ∧ Below w.heap.size w w' := by
  go_enter Tryz.func22, Tryz.ntmps22
  go_wp2_with fail
  refine (drawBatchBoth_any a len cap w h).mono ?_
  rintro e w1 ⟨o, o', l, l', rfl, h1, h2, h3, h4, h5⟩
  go_wp2_with fail
  refine bodyPost_ret (by simp [results, Tryz.results22, go_sem]; try rfl) rfl ?_
  exact ⟨o, o', l, l', rfl, h1, h2, h3, h4, h5⟩
end Go.Proofs.YtpjmkejojenflaaGreat
