/- How a text of a plan is drawn: the contract. -/
import Derived.Test.YtfofchgcbdbikaaDoorLq5
import Derived.Test.YtfofchgcbdbikaaDoorGpb
namespace Go.Proofs.YtfofchgcbdbikaaDoor
open Go.RowKit Go.Shelf

set_option maxRecDepth 100000 in
set_option maxHeartbeats 4000000 in
theorem l6Of_any {B : Nat} {w : World} {g : Nat} {v : Value} {n : Nat} {p : Int} {lb : Nat} {l : List By} (h : Rd B w g v n p) (hp : 0 ≤ p) (hp' : p ≤ 1000000) (bl : Bk w lb (wsC l).toArray 9) (hlb : lb ≠ g) (hl : 1 ≤ l.length) (hl2 : l.length ≤ 1000) :
    Calls Tryd.prog 31 #[.pointer (some ⟨g, 0, none⟩), .slice (some ⟨lb, 0, none⟩) l.length l.length] w fun e w' => (∃ x ∈ l, e = .returned (.string (baS x))) ∧ Rd B w' g v n (p + 1) ∧ Bx g w w' := by
  have HP := (show Hid _ from pick_any h hp hp' (l.length : Int) (by omega) (by omega))
  clear h
  go_enter Tryd.func31, Tryd.ntmps31
  go_wp2_with fail
  refine Calls.mono HP.out ?_
  rintro e w1 ⟨k, rfl, k0, k1, hr1, hx1⟩
  obtain ⟨j, rfl⟩ := Int.eq_ofNat_of_zero_le k0
  have hj : j < l.length := by omega
  obtain ⟨x, hx⟩ : ∃ x, l[j]? = some x := ⟨_, List.getElem?_eq_some_iff.2 ⟨hj, rfl⟩⟩
  have hc := (bl.keepx hx1 hlb).at (i := j) (v := .string (baS x)) (by simp [hx])
  go_wp2_with fail
  go_ret
  exact ⟨⟨x, List.mem_of_getElem? hx, rfl⟩, hr1, hx1⟩
/-- What is put between. -/
abbrev ofL : List By := [[32], [105, 110, 48], [48], [101, 97, 99, 104, 57, 32]]
theorem ofL_len : ∀ x ∈ ofL, x.length ≤ 6 := by decide
/-- What DrawLinesPlan answers: a text that is not long. -/
def DrwPost (w : World) (e : Ending) (w' : World) : Prop := (∃ s : By, e = .returned (.string (baS s)) ∧ s.length ≤ 400) ∧ Below w.heap.size w w'
set_option maxRecDepth 100000 in
set_option maxHeartbeats 8000000 in
theorem drawLinesPlan_any (a : Option Addr) (len cap : Nat) (w : World) (h : Src w (.slice a len cap) len) :
    Calls Tryd.prog 12 #[.slice a len cap] w (DrwPost w) := by
  have HS := (show Hid _ from h)
  have hst : stp 4 = 61 := by simp [stp]
  have HST := (show Hid (stp 4 = 61) from hst)
  clear h hst
  go_enter Tryd.func12, Tryd.ntmps12
  go_wp2_with fail
  refine (l6Open_any a len cap _ HS.out).mono ?_
  rintro e w1 ⟨rfl, ⟨v, n, hr1⟩, hb1⟩
  have hs1 := hr1.blk.lt
  go_wp2_with fail
  refine (l71Plan_any 4 (by omega) hr1 (by omega) (by rw [HST.out]; omega)).mono ?_
  rintro e w2 ⟨t, a2, i2, c2, rfl, hsm, ⟨-, hpk⟩, kd, ⟨p2, hp2, hp2', hr2⟩, hx2⟩
  have hb2 := hx2.below hb1 (by omega) (by omega)
  have hpok : pokB t 4 = true := hpk.resolve_left (by decide)
  have HT : Hid (1 ≤ (planText t).length ∧ (planText t).length ≤ 105) := by
    show 1 ≤ _ ∧ _
    have h1 := text_ne t hpok
    have h2 := text_len 4 t hpok
    have h3 := List.length_pos_iff.2 h1
    unfold planText
    rw [hpok]
    simp only [if_true]
    omega
  have HSP := (show Hid _ from specPlanText_any kd)
  rw [HST.out] at hp2'
  clear kd hsm hpk hpok hr1
  go_wp2_with fail
  refine Calls.mono HSP.out ?_
  rintro e w3 ⟨rfl, hb3⟩
  have hr3 := hr2.keepb hb3
  have hbw3 := hb2.trans (hb3.mono hb2.size)
  clear hr2 hb2 hb3 hx2 HSP
  obtain ⟨tx, htx⟩ : ∃ tx, planText t = tx := ⟨_, rfl⟩
  rw [htx] at HT ⊢
  clear htx
  go_wp2_with fail
  refine (pick_any hr3 (by omega) (by omega) _ (by omega) (by omega)).mono ?_
  rintro e w4 ⟨k, rfl, k0, k1, hr4, hx4⟩
  have hb4 := hx4.below hbw3 hbw3.size (by omega)
  by_cases hk : 0 < k
  · go_wp2_with fail
    go_ret
    exact ⟨⟨tx, rfl, by have := HT.out; omega⟩, hb4⟩
  · have hsz := baS_size tx
    obtain ⟨hT1, hT2⟩ := HT.out
    go_wp2_with fail
    refine (pick_any hr4 (by omega) (by omega) _ (by omega) (by omega)).mono ?_
    rintro e w5 ⟨i, rfl, i0, i1, hr5, hx5⟩
    have hb5 := hx5.below hb4 hb4.size (by omega)
    obtain ⟨i, rfl⟩ := Int.eq_ofNat_of_zero_le i0
    clear hk
    go_wp2_with fail
    refine (pick_any hr5 (by omega) (by omega) _ (by omega) (by omega)).mono ?_
    rintro e w6 ⟨m, rfl, m0, m1, hr6, hx6⟩
    have hb6 := hx6.below hb5 hb5.size (by omega)
    have hil : i < tx.length := by omega
    have hfr1 : ∀ w : World, (Instr.slice 9 (.string (baS tx)) (some (.int .i64 ((i : Int) + 1))) none none).run Tryd.prog w = .ok (.string (baS (tx.drop (i + 1)))) w := fun w => from_run (s := tx) (i := i + 1) (by omega) w
    have htr := fun w => to_run (s := tx) (j := i) (by omega) w
    have hfr := fun w => from_run (s := tx) (i := i) (by omega) w
    obtain ⟨A, hA, hAl⟩ : ∃ A, tx.take i = A ∧ A.length ≤ 105 := ⟨_, rfl, by simp; omega⟩
    obtain ⟨C, hC, hCl⟩ : ∃ C, tx.drop i = C ∧ C.length ≤ 105 := ⟨_, rfl, by simp; omega⟩
    obtain ⟨D, hD, hDl⟩ : ∃ D, tx.drop (i + 1) = D ∧ D.length ≤ 105 := ⟨_, rfl, by simp; omega⟩
    rw [hA] at htr
    rw [hC] at hfr
    rw [hD] at hfr1
    have hm : m = 0 ∨ m = 1 ∨ m = 2 ∨ m = 3 := by omega
    have hi1 : IntKind.i64.wrap ((i : Int) + 1) = (i : Int) + 1 := by rw [IntKind.wrap_i64]; omega
    clear hr3 hr4 hr5 hx4 hx5 hb4 hb5 hA hC hD
    rcases hm with rfl | rfl | rfl | rfl
    · have z1 : ¬ (9223372036854775807 < A.length + D.length) := by omega
      have e1 : baS A ++ baS D = baS (A ++ D) := baS_app _ _
      have sA := baS_size A
      have sD := baS_size D
      have HB6 : Hid (Below w.heap.size w w6.drew) := hb6.drew
      go_wp2_with fail
      go_region
      all_goals
        go_wp2_with fail
        go_ret
        first
        | exact ⟨⟨A ++ D, rfl, by simp; omega⟩, HB6.out⟩
        | exact ⟨⟨A ++ D, by rw [← e1]; rfl, by simp; omega⟩, HB6.out⟩
    · have HOF : Hid (∀ W : World, Below w6.heap.size w6 W → Bk W w6.heap.size (wsC ofL).toArray 9 → Calls Tryd.prog 31 #[.pointer (some ⟨w.heap.size, 0, none⟩), .slice (some ⟨w6.heap.size, 0, none⟩) 4 4] W fun e w' => (∃ x : By, x.length ≤ 6 ∧ e = .returned (.string (baS x))) ∧ Below w.heap.size w w') := fun W hW hK => by
        have hs6 := hr6.blk.lt
        refine (l6Of_any (l := ofL) (hr6.keepb hW) (by omega) (by omega) hK (by omega) (by decide) (by decide)).mono ?_
        rintro e w' ⟨⟨x, hx, rfl⟩, -, hxx⟩
        exact ⟨⟨x, ofL_len x hx, rfl⟩, hxx.below (hb6.trans (hW.mono hb6.size)) (Nat.le_trans hb6.size hW.size) (by omega)⟩
      have HB1 : Hid (Below w6.heap.size w6 (w6.drew.alloc (.cells (wsC ofL).toArray 9))) := bAlloc ((Below.refl _ w6).drew) _
      have HK1 : Hid (Bk (w6.drew.alloc (.cells (wsC ofL).toArray 9)) w6.heap.size (wsC ofL).toArray 9) := Bk.new (w := w6.drew) _ _ rfl
      have sA := baS_size A
      have sC := baS_size C
      go_wp2_with fail
      go_region_law (go_simp; go_at_call 31; refine Calls.mono (HOF.out _ (by first | exact HB1.out | exact HB1.out.drew) (by first | exact HK1.out | exact Bk.drew HK1.out)) ?_; rintro e w7 ⟨⟨x, hx, rfl⟩, hb7⟩; have z1 : ¬ (9223372036854775807 < A.length + x.length) := (by omega); have z2 : ¬ (9223372036854775807 < A.length + x.length + C.length) := (by omega); have HE : Hid (baS A ++ baS x ++ baS C = baS (A ++ x ++ C)) := (by show _ = _; rw [baS_app, baS_app]))
      all_goals
        go_wp2_with fail
        go_ret
        exact ⟨⟨A ++ x ++ C, by rw [← HE.out]; rfl, by simp; omega⟩, hb7⟩
    · have e2 : baS tx ++ ({ data := #[32] } : ByteArray) ++ baS tx = baS (tx ++ [32] ++ tx) := by
        rw [show ({ data := #[32] } : ByteArray) = baS [32] from rfl, baS_app, baS_app]
      go_wp2_with fail
      go_ret
      exact ⟨⟨tx ++ 32 :: tx, rfl, by simp; omega⟩, hb6⟩
    · go_wp2_with fail
      go_ret
      exact ⟨⟨A, rfl, by omega⟩, hb6⟩
end Go.Proofs.YtfofchgcbdbikaaDoor
