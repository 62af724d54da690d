import Derived.Test.YtldejkhemkjcgaaGreatDoorGd3
import Derived.Test.YtldejkhemkjcgaaGreatDoorGtX
import Derived.Test.YtldejkhemkjcgaaGreatDoorGs7
import Derived.Test.YtldejkhemkjcgaaGreatDoorGb1
import Derived.Test.YtldejkhemkjcgaaGreatDoorGa1
namespace Go.Proofs.YtldejkhemkjcgaaGreatDoor
open Go.RowKit
def drS (l : List It) : Prop := l.length ≤ 9 ∧ absum l ≤ 25
theorem abs_set (l : List It) (j : Nat) (s : Int × Int) : absum (l.set j (s, 0)) ≤ absum l := by
  induction l generalizing j with
  | nil => simp
  | cons r l ih =>
    cases j with
    | zero => simp only [List.set_cons_zero, absum]; omega
    | succ j => have := ih j; simp only [List.set_cons_succ, absum]; omega
theorem items_dr {l : List Rw} (hl : l.length ≤ 8) (hs : ∀ r ∈ l, smR r) (x y : Int) : (itemsL l x y).length ≤ 8 ∧ absum (itemsL l x y) ≤ 24 := by
  have h1 := absum_le (l := l) (c := 3) fun r hr => (hs r hr).2
  have h2 : absum l ≤ 24 := by omega
  unfold itemsL
  split
  · exact ⟨Nat.le_trans (sumL_len _ _) (Nat.le_trans (atL_len l x y) hl), Int.le_trans (sum_absI _) (Int.le_trans atL_abs h2)⟩
  · exact ⟨by simp, by simp [absum]⟩
theorem FillK.count {c : Array Value} {L : List It} {n i : Nat} {s : Int × Int} {d : Int} (h : FillK itC 3 c L n) (hi : L[i]? = some (s, d)) (hin : i < n) (hs : i * 3 + 2 < c.size) (d' : Int) :
    FillK itC 3 (c.setIfInBounds (i * 3 + 2) (.int .i64 d')) (L.set i (s, d')) n := by
  intro j x hj hx q hq
  have hil := (List.getElem?_eq_some_iff.1 hi).1
  rw [List.getElem?_set] at hx
  rw [Array.getElem?_setIfInBounds]
  by_cases e : i = j
  · subst e
    rw [if_pos rfl, if_pos hil] at hx
    cases hx
    obtain rfl | hq2 : q = 2 ∨ q ≠ 2 := by omega
    · rw [if_pos rfl, if_pos (by omega)]; rfl
    · rw [if_neg (by omega), h i _ hin hi q hq]
      obtain rfl | rfl : q = 0 ∨ q = 1 := by omega
      all_goals rfl
  · rw [if_neg e] at hx
    rw [if_neg (by omega)]
    exact h j x hj hx q hq
set_option maxRecDepth 100000 in
set_option maxHeartbeats 8000000 in
theorem l71Set_any {B : Nat} {w : World} {g : Nat} {v : Value} {n : Nat} {p : Int} (h : Rd B w g v n p) (hp : 0 ≤ p) (hp' : p ≤ 600000) :
    Calls Tryz.prog 69 #[.pointer (some ⟨g, 0, none⟩)] w fun e w' => ∃ (o : Value) (l : List It), e = .returned o ∧ drS l ∧ OwnI w' w.heap.size o l ∧ (∃ p' : Int, p ≤ p' ∧ p' ≤ p + 700 ∧ Rd B w' g v n p') ∧ Bx g w w' := by
  have hg := h.blk.lt
  have hh := h.here
  go_enter Tryz.func69, Tryz.ntmps69
  go_wp2_with fail
  refine (l71Rows_any h hp (by omega) 8 (by omega) (by omega)).mono ?_
  rintro e w1 ⟨o1, l1, rfl, hl1, hsm, hown1, ⟨p1, hp1, hp2, hr1⟩, hx1⟩
  have hs1 := hx1.size
  obtain ⟨hd1, hd2⟩ := items_dr (by omega) hsm 7 7
  have R1 : Rs w1 o1 l1 := OwnR.rs hown1 (by omega)
  clear hown1 hsm
  go_wp2_with fail
  refine (specAt_any o1 l1 7 7 _ R1).mono ?_
  rintro e w2 ⟨o, rfl, own2, hb2⟩
  have x2 := hx1.trans (Bx.of_below (g := g) hb2)
  have hr2 := hr1.keepb hb2
  have hs2 := x2.size
  generalize itemsL l1 7 7 = l at *
  have HO : Hid (OwnI w2 w.heap.size o l) := own_less own2 hs1
  clear own2 R1 hx1 hb2 hr1
  go_wp2_with fail
  refine (pick_any hr2 (by omega) (by omega) _ (by omega) (by omega)).mono ?_
  rintro e w3 ⟨k, rfl, hk0, hk1, hr3, hx3⟩
  have HO3 : Hid (OwnI w3 w.heap.size o l) := own_keepx HO.out hx3 hg
  have x3 := x2.trans hx3
  have hs3 := x3.size
  clear HO hr2 hx3 x2
  by_cases hk : k = 0
  · subst hk
    go_wp2_with fail
    refine (pick_any hr3 (by omega) (by omega) _ (by omega) (by omega)).mono ?_
    rintro e w4 ⟨k4, rfl, hk40, hk41, hr4, hx4⟩
    have HO4 : Hid (OwnI w4 w.heap.size o l) := own_keepx HO3.out hx4 hg
    have x4 := x3.trans hx4
    clear HO3 hr3 hx4 x3
    go_wp2_with fail
    refine (pick_any hr4 (by omega) (by omega) _ (by omega) (by omega)).mono ?_
    rintro e w5 ⟨k5, rfl, hk50, hk51, hr5, hx5⟩
    have HO5 : Hid (OwnI w5 w.heap.size o l) := own_keepx HO4.out hx5 hg
    have x5 := x4.trans hx5
    clear HO4 hr4 hx5 x4
    go_wp2_with fail
    refine (pick_any hr5 (by omega) (by omega) _ (by omega) (by omega)).mono ?_
    rintro e w6 ⟨k6, rfl, hk60, hk61, hr6, hx6⟩
    have O6 : OwnI w6 w.heap.size o l := own_keepx HO5.out hx6 hg
    have x6 := x5.trans hx6
    have hs6 := x6.size
    clear HO5 hr5 hx6 x5
    go_wp2_with (at_builtin; refine appI _ rfl _ _ rfl w.heap.size _ l rfl (O6.alloc _) _ (k4 - 1) (k5 - 5) (k6 - 1) rfl (Bk.new _ _ rfl) (by omega) (by simp; omega) ?_; intro g9 cap9 w9 own9 hgrow hlg)
    have hr9 : Rd B w9 g v n (p1 + 1 + 1 + 1 + 1) := (hr6.keepb (bAlloc (Below.refl _ _) _)).grown hgrow (fun k e => by have := ownK_base O6 k e; omega)
    have hx9 : Bx g w w9 := (x6.alloc _).grown hgrow (ownK_base O6)
    have H9 : Hid (OwnI w9 w.heap.size (.slice (some ⟨g9, 0, none⟩) (l.length + 1) cap9) (l ++ [((k4 - 1, k5 - 5), k6 - 1)])) := own9
    clear own9
    go_ret
    exact ⟨_, _, rfl, ⟨by simp; omega, by rw [absum_append]; simp only [absum]; omega⟩, H9.out, ⟨_, by omega, by omega, hr9⟩, hx9⟩
  have hkb : (k == 0) = false := by simpa using hk
  by_cases hk' : k = 1
  · subst hk'
    by_cases hpos : 0 < l.length
    · rcases ownK_open HO3.out itC_len with ⟨rfl, rfl⟩ | ⟨g5, cap5, c5, rfl, hg5, hb5, hcs5, hc5, hm5, hf5⟩
      · simp at hpos
      have HF : Hid (FillK itC 3 c5 l l.length) := hf5
      have HCS : Hid (c5.size = cap5 * 3) := hcs5
      have HM : Hid (cap5 ≤ maxLen) := hm5
      unfold maxLen at hm5
      clear hf5 hcs5 HO3
      go_wp2_with fail
      refine (pick_any hr3 (by omega) (by omega) _ (by omega) (by omega)).mono ?_
      rintro e w5 ⟨j0, rfl, hj0, hj1, hr5, hx5⟩
      obtain ⟨j, rfl⟩ := Int.eq_ofNat_of_zero_le hj0
      have hjl : j < l.length := by omega
      have bk5 := hb5.keepx hx5 (by omega)
      have x5 := x3.trans hx5
      obtain ⟨⟨⟨K, V⟩, D⟩, hrj⟩ : ∃ r, l[j]? = some r := ⟨_, List.getElem?_eq_getElem hjl⟩
      have hcj := HF.out j _ hjl hrj 2 (by omega)
      have q2 := bk5.cell hcj
      have f2 := bk5.free (j * 3 + 2)
      have bk6 := bk5.set (j * 3 + 2) (.int .i64 0)
      have HA : Hid (absum (l.set j ((K, V), 0)) ≤ absum l) := abs_set l j (K, V)
      have HR : Hid (OwnI (w5.setCell ⟨g5, j * 3 + 2, none⟩ (.int .i64 0)) w.heap.size (.slice (some ⟨g5, 0, none⟩) l.length cap5) (l.set j ((K, V), 0))) := by
        have hsz := HCS.out
        have hF := FillK.count HF.out hrj hjl (by rw [hsz]; omega) 0
        have := ownK_of_fill (B := w.heap.size) (l := l.set j ((K, V), 0)) bk6 (by rw [List.length_set]; exact hF) itC_len (by simpa using hsz) (by rw [List.length_set]; exact hc5) HM.out hg5
        rw [List.length_set] at this
        exact this
      have x6 : Bx g w (w5.setCell ⟨g5, j * 3 + 2, none⟩ (.int .i64 0)) := x5.setNew (by simp; omega) _
      have hr6 := hr5.apart (q := ⟨g5, j * 3 + 2, none⟩) (by simp; omega) (by simp; have := hr5.size; omega) (.int .i64 0)
      clear hcj hrj
      go_wp2_with fail
      go_ret
      exact ⟨_, _, rfl, ⟨by simp; omega, by have := HA.out; omega⟩, HR.out, ⟨_, by omega, by omega, hr6⟩, x6⟩
    · obtain rfl : l = [] := List.eq_nil_of_length_eq_zero (by omega)
      have R4 : Is w3 o [] := OwnI.is HO3.out (by simp)
      obtain ⟨a4, cap4, hu, -⟩ := R4
      have hu2 : o = .slice a4 0 cap4 := hu
      subst hu2
      clear hu
      go_wp2_with fail
      go_ret
      exact ⟨_, [], rfl, ⟨by simp, by simp [absum]⟩, HO3.out, ⟨_, by omega, by omega, hr3⟩, x3⟩
  have hkb1 : (k == 1) = false := by simpa using hk'
  go_wp2_with fail
  go_ret
  exact ⟨_, l, rfl, ⟨by omega, by omega⟩, HO3.out, ⟨_, by omega, by omega, hr3⟩, x3⟩
end Go.Proofs.YtldejkhemkjcgaaGreatDoor
namespace Go.Proofs.YtldejkhemkjcgaaGreatDoor
open Go.RowKit
abbrev wayA : Array Value := #[.int .i64 0, .int .i64 8, .int .i64 (-1)]
structure WayS (g : Nat) (o : Value) (L : Array Bool) (W : World) (t13 t14 t15 t16 t17 t18 t2 t3 : Value) : Prop where
  s0 : L.getD 0 false = true → t13 = o
  s1 : L.getD 1 false = true → ∃ b : Nat, b ≠ g ∧ Bk W b wayA 3 ∧ t14 = .slice (some ⟨b, 0, none⟩) 3 3
  s2 : L.getD 2 false = true → t15 = .pointer (some ⟨g, 0, none⟩)
  s3 : L.getD 3 false = true → ∃ j : Nat, j < 3 ∧ t16 = .int .i64 j
  s4 : L.getD 4 false = true → ∃ b j : Nat, b ≠ g ∧ j < 3 ∧ Bk W b wayA 3 ∧ t17 = .pointer (some ⟨b, j, none⟩)
  s5 : L.getD 5 false = true → ∃ V : Int, t18 = .int .i64 V
  s6 : L.getD 6 false = true → t2 = o
  s7 : L.getD 7 false = true → ∃ V : Int, t3 = .int .i64 V
variable {g : Nat} {o : Value} {L : Array Bool} {W W' : World} {t13 t14 t15 t16 t17 t18 t2 t3 : Value}
theorem WayS.keep (h : WayS g o L W t13 t14 t15 t16 t17 t18 t2 t3) (hx : Bx g W W') : WayS g o L W' t13 t14 t15 t16 t17 t18 t2 t3 where
  s0 := h.s0
  s1 := fun e => by obtain ⟨b, h2, h3, h4⟩ := h.s1 e; exact ⟨b, h2, h3.keepx hx h2, h4⟩
  s2 := h.s2
  s3 := h.s3
  s4 := fun e => by obtain ⟨b, j, h2, h3, h4, h5⟩ := h.s4 e; exact ⟨b, j, h2, h3, h4.keepx hx h2, h5⟩
  s5 := h.s5
  s6 := h.s6
  s7 := h.s7
theorem WayS.put0 {u : Value} (h : WayS g o L W t13 t14 t15 t16 t17 t18 t2 t3) (hu : u = o) : WayS g o (L.setIfInBounds 0 true) W u t14 t15 t16 t17 t18 t2 t3 where
  s0 := fun _ => hu
  s1 := fun e => h.s1 (getD_set (by decide) e)
  s2 := fun e => h.s2 (getD_set (by decide) e)
  s3 := fun e => h.s3 (getD_set (by decide) e)
  s4 := fun e => h.s4 (getD_set (by decide) e)
  s5 := fun e => h.s5 (getD_set (by decide) e)
  s6 := fun e => h.s6 (getD_set (by decide) e)
  s7 := fun e => h.s7 (getD_set (by decide) e)
theorem WayS.put1 {u : Value} (h : WayS g o L W t13 t14 t15 t16 t17 t18 t2 t3) (hu : ∃ b : Nat, b ≠ g ∧ Bk W b wayA 3 ∧ u = .slice (some ⟨b, 0, none⟩) 3 3) : WayS g o (L.setIfInBounds 1 true) W t13 u t15 t16 t17 t18 t2 t3 where
  s0 := fun e => h.s0 (getD_set (by decide) e)
  s1 := fun _ => hu
  s2 := fun e => h.s2 (getD_set (by decide) e)
  s3 := fun e => h.s3 (getD_set (by decide) e)
  s4 := fun e => h.s4 (getD_set (by decide) e)
  s5 := fun e => h.s5 (getD_set (by decide) e)
  s6 := fun e => h.s6 (getD_set (by decide) e)
  s7 := fun e => h.s7 (getD_set (by decide) e)
theorem WayS.put2 {u : Value} (h : WayS g o L W t13 t14 t15 t16 t17 t18 t2 t3) (hu : u = .pointer (some ⟨g, 0, none⟩)) : WayS g o (L.setIfInBounds 2 true) W t13 t14 u t16 t17 t18 t2 t3 where
  s0 := fun e => h.s0 (getD_set (by decide) e)
  s1 := fun e => h.s1 (getD_set (by decide) e)
  s2 := fun _ => hu
  s3 := fun e => h.s3 (getD_set (by decide) e)
  s4 := fun e => h.s4 (getD_set (by decide) e)
  s5 := fun e => h.s5 (getD_set (by decide) e)
  s6 := fun e => h.s6 (getD_set (by decide) e)
  s7 := fun e => h.s7 (getD_set (by decide) e)
theorem WayS.put3 {u : Value} (h : WayS g o L W t13 t14 t15 t16 t17 t18 t2 t3) (hu : ∃ j : Nat, j < 3 ∧ u = .int .i64 j) : WayS g o (L.setIfInBounds 3 true) W t13 t14 t15 u t17 t18 t2 t3 where
  s0 := fun e => h.s0 (getD_set (by decide) e)
  s1 := fun e => h.s1 (getD_set (by decide) e)
  s2 := fun e => h.s2 (getD_set (by decide) e)
  s3 := fun _ => hu
  s4 := fun e => h.s4 (getD_set (by decide) e)
  s5 := fun e => h.s5 (getD_set (by decide) e)
  s6 := fun e => h.s6 (getD_set (by decide) e)
  s7 := fun e => h.s7 (getD_set (by decide) e)
theorem WayS.put4 {u : Value} (h : WayS g o L W t13 t14 t15 t16 t17 t18 t2 t3) (hu : ∃ b j : Nat, b ≠ g ∧ j < 3 ∧ Bk W b wayA 3 ∧ u = .pointer (some ⟨b, j, none⟩)) : WayS g o (L.setIfInBounds 4 true) W t13 t14 t15 t16 u t18 t2 t3 where
  s0 := fun e => h.s0 (getD_set (by decide) e)
  s1 := fun e => h.s1 (getD_set (by decide) e)
  s2 := fun e => h.s2 (getD_set (by decide) e)
  s3 := fun e => h.s3 (getD_set (by decide) e)
  s4 := fun _ => hu
  s5 := fun e => h.s5 (getD_set (by decide) e)
  s6 := fun e => h.s6 (getD_set (by decide) e)
  s7 := fun e => h.s7 (getD_set (by decide) e)
theorem WayS.put5 {u : Value} (h : WayS g o L W t13 t14 t15 t16 t17 t18 t2 t3) (hu : ∃ V : Int, u = .int .i64 V) : WayS g o (L.setIfInBounds 5 true) W t13 t14 t15 t16 t17 u t2 t3 where
  s0 := fun e => h.s0 (getD_set (by decide) e)
  s1 := fun e => h.s1 (getD_set (by decide) e)
  s2 := fun e => h.s2 (getD_set (by decide) e)
  s3 := fun e => h.s3 (getD_set (by decide) e)
  s4 := fun e => h.s4 (getD_set (by decide) e)
  s5 := fun _ => hu
  s6 := fun e => h.s6 (getD_set (by decide) e)
  s7 := fun e => h.s7 (getD_set (by decide) e)
theorem WayS.put6 {u : Value} (h : WayS g o L W t13 t14 t15 t16 t17 t18 t2 t3) (hu : u = o) : WayS g o (L.setIfInBounds 6 true) W t13 t14 t15 t16 t17 t18 u t3 where
  s0 := fun e => h.s0 (getD_set (by decide) e)
  s1 := fun e => h.s1 (getD_set (by decide) e)
  s2 := fun e => h.s2 (getD_set (by decide) e)
  s3 := fun e => h.s3 (getD_set (by decide) e)
  s4 := fun e => h.s4 (getD_set (by decide) e)
  s5 := fun e => h.s5 (getD_set (by decide) e)
  s6 := fun _ => hu
  s7 := fun e => h.s7 (getD_set (by decide) e)
theorem WayS.put7 {u : Value} (h : WayS g o L W t13 t14 t15 t16 t17 t18 t2 t3) (hu : ∃ V : Int, u = .int .i64 V) : WayS g o (L.setIfInBounds 7 true) W t13 t14 t15 t16 t17 t18 t2 u where
  s0 := fun e => h.s0 (getD_set (by decide) e)
  s1 := fun e => h.s1 (getD_set (by decide) e)
  s2 := fun e => h.s2 (getD_set (by decide) e)
  s3 := fun e => h.s3 (getD_set (by decide) e)
  s4 := fun e => h.s4 (getD_set (by decide) e)
  s5 := fun e => h.s5 (getD_set (by decide) e)
  s6 := fun e => h.s6 (getD_set (by decide) e)
  s7 := fun _ => hu
end Go.Proofs.YtldejkhemkjcgaaGreatDoor
namespace Go.Proofs.YtldejkhemkjcgaaGreatDoor
open Go.RowKit
end Go.Proofs.YtldejkhemkjcgaaGreatDoor
