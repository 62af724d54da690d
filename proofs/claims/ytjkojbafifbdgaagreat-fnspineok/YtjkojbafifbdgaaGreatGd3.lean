/- What the drawing of rows as they come, of batches, and of the arguments of the laws on batches answers: contracts. -/
import Derived.Test.YtjkojbafifbdgaaGreatGd1
import Derived.Test.YtjkojbafifbdgaaGreatGa8
import Derived.Test.YtjkojbafifbdgaaGreatGs2
import Derived.Test.YtjkojbafifbdgaaGreatGb1
import Derived.Test.YtjkojbafifbdgaaGreatGb0
import Derived.Test.YtjkojbafifbdgaaGreatGa5
import Derived.Test.YtjkojbafifbdgaaGreatGs7
import Derived.Deep.RegionHeld3
import Derived.Test.YtjkojbafifbdgaaGreatGs6
/-! What the drawing of rows as they come, of batches, and of the arguments of the laws on batches answers: contracts. -/
namespace Go.Proofs.YtjkojbafifbdgaaGreat
open Go.RowKit

/-- Rows as they are drawn: few; and where they are ok, of few. -/
def drR (l : List Rw) : Prop := l.length ≤ 11 ∧ (rokB l = true → ∀ r ∈ l, smR r)
theorem drR.abs {l : List Rw} (h : drR l) (hk : rokB l = true) : absum l ≤ 33 := by
  have h1 := absum_le (l := l) (c := 3) fun r hr => (h.2 hk r hr).2
  have h2 := h.1
  have : (3 : Int) * l.length ≤ 33 := by omega
  omega
set_option maxHeartbeats 4000000 in
theorem l71Any_any {B : Nat} {w : World} {g : Nat} {v : Value} {n : Nat} {p : Int} (h : Rd B w g v n p) (hp : 0 ≤ p) (hp' : p ≤ 600000) :
    Calls Tryz.prog 56 #[.pointer (some ⟨g, 0, none⟩)] w fun e w' => ∃ (o : Value) (l : List Rw), e = .returned o ∧ drR l ∧ OwnR w' w.heap.size o l ∧ (∃ p' : Int, p ≤ p' ∧ p' ≤ p + 700 ∧ Rd B w' g v n p') ∧ Bx g w w' := by
  have hg := h.blk.lt
  go_enter Tryz.func56, Tryz.ntmps56
  go_wp2_with fail
  refine (l71Rows_any h hp (by omega) 10 (by omega) (by omega)).mono ?_
  rintro e w1 ⟨o, l, rfl, hl, hsm, hown, ⟨p1, hp1, hp2, hr1⟩, hx1⟩
  have hs1 := hx1.size
  have HO : Hid (OwnR w1 w.heap.size o l) := hown
  have HS : Hid (∀ r ∈ l, smR r) := hsm
  clear hown hsm
  go_wp2_with fail
  refine (pick_any hr1 (by omega) (by omega) _ (by omega) (by omega)).mono ?_
  rintro e w2 ⟨k, rfl, hk0, hk1, hr2, hx2⟩
  have hx12 := hx1.trans hx2
  have HO2 : Hid (OwnR w2 w.heap.size o l) := own_keepx HO.out hx2 hg
  have hs2 := hx12.size
  by_cases hk : k = 0
  · subst hk
    go_wp2_with fail
    refine (l71Spoil_any hr2 (by omega) (by omega) o l (OwnR.rs HO2.out (by omega)) (by omega) (fun W hW => OwnR.rs (own_keepx HO2.out hW hg) (by omega))).mono ?_
    rintro e w3 ⟨o3, l3, rfl, hl3, hb3, hown3, ⟨p3, hp3, hp4, hr3⟩, hx3⟩
    have HO3 : Hid (OwnR w3 w2.heap.size o3 l3) := hown3
    clear hown3
    go_wp2_with fail
    go_ret
    exact ⟨_, l3, rfl, ⟨by omega, fun e => by rw [hb3] at e; cases e⟩, own_less HO3.out hs2, ⟨p3, by omega, by omega, hr3⟩, hx12.trans hx3⟩
  · have hkb : (k == 0) = false := by simpa using hk
    go_wp2_with fail
    go_ret
    exact ⟨_, l, rfl, ⟨by omega, fun _ => HS.out⟩, HO2.out, ⟨_, by omega, by omega, hr2⟩, hx12⟩
set_option maxHeartbeats 4000000 in
theorem l71Batch_any {B : Nat} {w : World} {g : Nat} {v : Value} {n : Nat} {p : Int} (h : Rd B w g v n p) (hp : 0 ≤ p) (hp' : p ≤ 600000) (most : Int) (hm0 : 0 ≤ most) (hm1 : most ≤ 10) :
    Calls Tryz.prog 51 #[.pointer (some ⟨g, 0, none⟩), .int .i64 most] w fun e w' => ∃ (o : Value) (l : List Rw), e = .returned o ∧ (l.length : Int) ≤ most ∧ (∀ r ∈ l, smR r) ∧ OwnR w' w.heap.size o (batchL l) ∧ (∃ p' : Int, p ≤ p' ∧ p' ≤ p + 600 ∧ Rd B w' g v n p') ∧ Bx g w w' := by
  go_enter Tryz.func51, Tryz.ntmps51
  go_wp2_with fail
  refine (l71Rows_any h hp (by omega) most hm0 hm1).mono ?_
  rintro e w1 ⟨o, l, rfl, hl, hsm, hown, ⟨p1, hp1, hp2, hr1⟩, hx1⟩
  have hs1 := hx1.size
  have HS : Hid (∀ r ∈ l, smR r) := hsm
  have R1 : Rs w1 o l := OwnR.rs hown (by omega)
  clear hown hsm
  go_wp2_with fail
  refine (specBatchOf_any o l _ R1).mono ?_
  rintro e w2 ⟨o2, rfl, own2, hb2⟩
  have HO : Hid (OwnR w2 w1.heap.size o2 (batchL l)) := own2
  clear own2
  go_wp2_with fail
  go_ret
  exact ⟨_, l, rfl, hl, HS.out, own_less HO.out hs1, ⟨p1, hp1, hp2, hr1.keepb hb2⟩, hx1.trans (Bx.of_below hb2)⟩
set_option maxHeartbeats 4000000 in
theorem drawBatchMove_any (a : Option Addr) (len cap : Nat) (w : World) (h : Src w (.slice a len cap) len) :
    Calls Tryz.prog 17 #[.slice a len cap] w fun e w' => ∃ (o o' : Value) (l : List Rw) (f : List (Int × Int)), e = .returned (.tuple #[o, o']) ∧ drR l ∧ f.length ≤ 65 ∧ Rs w' o l ∧ Ts w' o' f ∧ Below w.heap.size w w' := by
  go_enter Tryz.func17, Tryz.ntmps17
  go_wp2_with fail
  refine (l6Open_any _ _ _ _ h).mono ?_
  rintro e w1 ⟨rfl, ⟨v, n, hr1⟩, hb1⟩
  clear h
  have hs1 := hb1.size
  have hg := hr1.blk.lt
  go_wp2_with fail
  refine (l71Any_any hr1 (by omega) (by omega)).mono ?_
  rintro e w2 ⟨o, l, rfl, hd, hown, ⟨p1, hp1, hp2, hr2⟩, hx2⟩
  have HO : Hid (OwnR w2 w1.heap.size o l) := hown
  clear hown
  go_wp2_with fail
  refine (l71Some_any hr2 (by omega) (by omega)).mono ?_
  rintro e w3 ⟨o', f, rfl, hl', hown', -, hx3⟩
  have R3' : Hid (Ts w3 o' f) := Own.ts hown' (by omega)
  have R3 : Hid (Rs w3 o l) := OwnR.rs (own_keepx HO.out hx3 hg) (by have := hd.1; omega)
  clear hown' HO
  go_wp2_with fail
  refine bodyPost_ret (by simp [results, Tryz.results17, go_sem]; try rfl) rfl ?_
  exact ⟨o, o', l, f, rfl, hd, hl', R3.out, R3'.out, (hx2.trans hx3).below hb1 hs1 (Nat.le_refl _)⟩
theorem Rs.setNew {w : World} {v : Value} {l : List Rw} {B : Nat} {p : Addr} (h : OwnR w B v l) (hp : p.block < B) (u : Value) : OwnR (w.setCell p u) B v l :=
  own_move h fun k hk _ => Below.heap_setCell _ _ _ _ (by omega)
end Go.Proofs.YtjkojbafifbdgaaGreat

/-! The laws' own compares of rows and of items: contracts. -/
namespace Go.Proofs.YtjkojbafifbdgaaGreat
open Go.RowKit

theorem rows_eq {α : Type} {l l' : List α} (hn : l.length = l'.length) (h : ∀ j : Nat, j < l.length → l[j]? = l'[j]?) : l = l' := by
  apply List.ext_getElem?
  intro i
  by_cases hi : i < l.length
  · exact h i hi
  · rw [List.getElem?_eq_none (by omega), List.getElem?_eq_none (by omega)]
set_option maxHeartbeats 4000000 in
theorem lwRows_any (v v' : Value) (l l' : List Rw) (w : World) (h : Rs w v l) (h' : Rs w v' l') :
    Calls Tryz.prog 12 #[v, v'] w fun e w' => e = .returned (.bool (decide (l = l'))) ∧ Below w.heap.size w w' := by
  obtain ⟨a, cap, rfl, hc, hm, hn, hcells⟩ := Rs.open h
  obtain ⟨a', cap', rfl, hc', hm', hn', hcells'⟩ := Rs.open h'
  unfold maxLen at hm hm'
  have HC := (show Hid _ from hcells)
  have HC' := (show Hid _ from hcells')
  clear hcells hcells' h h'
  by_cases hlen : l.length = l'.length
  · have HE : Hid (l.length = l'.length) := hlen
    rw [← hlen] at hc' HC' ⊢
    clear hlen hn'
    go_enter Tryz.func12, Tryz.ntmps12
    go_wp2_with fail
    go_loopw [5] (fun i wr => ∃ k : Nat, k ≤ l.length ∧ i = .int .i64 k ∧ (∀ j : Nat, j < k → l[j]? = l'[j]?) ∧ Below w.heap.size w wr) (fun i _ => l.length - (intOf i).toNat)
    case atStart => exact ⟨0, by omega, rfl, fun j hj => by omega, Below.refl _ _⟩
    case round =>
      obtain ⟨k, hk, rfl, hall, hb⟩ := hrel
      have HA := (show Hid _ from hall)
      clear hall
      by_cases hlt : k < l.length
      · obtain ⟨g, off, K, V, A, B, D, rfl, hg, hr, c0, c1, c2, c3, c4⟩ := HC.out k hlt
        obtain ⟨g', off', K', V', A', B', D', rfl, hg', hr', p0, p1, p2, p3, p4⟩ := HC'.out k hlt
        have d0 := cell_below hb c0
        have d1 := cell_below hb c1
        have d2 := cell_below hb c2
        have d3 := cell_below hb c3
        have d4 := cell_below hb c4
        have e0 := cell_below hb p0
        have e1 := cell_below hb p1
        have e2 := cell_below hb p2
        have e3 := cell_below hb p3
        have e4 := cell_below hb p4
        clear c0 c1 c2 c3 c4 p0 p1 p2 p3 p4
        have HN : Hid ((((K, V), (A, B)), D) ≠ (((K', V'), (A', B')), D') → decide (l = l') = false) := fun h => decide_eq_false fun e => h (by rw [e, hr'] at hr; exact (Option.some.inj hr).symm)
        have HY : Hid ((((K, V), (A, B)), D) = (((K', V'), (A', B')), D') → ∀ j : Nat, j < k + 1 → l[j]? = l'[j]?) := fun h j hj => by
          by_cases e : j = k
          · subst e; rw [hr, hr', h]
          · exact HA.out j (by omega)
        clear hr hr'
        have ik : ((k : Int) < (l.length : Int)) := by omega
        by_cases h0 : K = K'
        · subst h0
          by_cases h1 : V = V'
          · subst h1
            by_cases h2 : A = A'
            · subst h2
              by_cases h3 : B = B'
              · subst h3
                by_cases h4 : D = D'
                · subst h4
                  go_wp2_with fail
                  go_quiet (fail)
                  go_wp2_with fail
                  go_roundw
                  case rel => exact ⟨k + 1, by omega, by go_num, HY.out (by simp), bDrewN hb _⟩
                  case measure => simp [intOf]; omega
                · have nx : (D == D') = false := beq_eq_false_iff_ne.2 h4
                  go_wp2_with fail
                  go_quiet (fail)
                  go_wp2_with fail
                  go_ret
                  exact ⟨ret_bool (HN.out (fun h => h4 (by simp at h; simp [h]))).symm, bDrewN hb _⟩
              · have nx : (B == B') = false := beq_eq_false_iff_ne.2 h3
                go_wp2_with fail
                go_quiet (fail)
                go_wp2_with fail
                go_ret
                exact ⟨ret_bool (HN.out (fun h => h3 (by simp at h; simp [h]))).symm, bDrewN hb _⟩
            · have nx : (A == A') = false := beq_eq_false_iff_ne.2 h2
              go_wp2_with fail
              go_quiet (fail)
              go_wp2_with fail
              go_ret
              exact ⟨ret_bool (HN.out (fun h => h2 (by simp at h; simp [h]))).symm, bDrewN hb _⟩
          · have nx : (V == V') = false := beq_eq_false_iff_ne.2 h1
            go_wp2_with fail
            go_quiet (fail)
            go_wp2_with fail
            go_ret
            exact ⟨ret_bool (HN.out (fun h => h1 (by simp at h; simp [h]))).symm, bDrewN hb _⟩
        · have nx : (K == K') = false := beq_eq_false_iff_ne.2 h0
          go_wp2_with fail
          go_quiet (fail)
          go_wp2_with fail
          go_ret
          exact ⟨ret_bool (HN.out (fun h => h0 (by simp at h; simp [h]))).symm, bDrewN hb _⟩
      · go_wp2_with fail
        go_ret
        exact ⟨ret_bool (decide_eq_true (rows_eq HE.out fun j hj => HA.out j (by omega))).symm, hb⟩
  · have hd : decide (l = l') = false := decide_eq_false fun e => hlen (by rw [e])
    rw [hd]
    have hne : ((l.length : Int) == (l'.length : Int)) = false := beq_eq_false_iff_ne.2 (by omega)
    generalize l.length = n at *
    generalize l'.length = n' at *
    go_enter Tryz.func12, Tryz.ntmps12
    go_wp2_with fail
    go_ret
    exact ⟨rfl, Below.refl _ _⟩
theorem lwRows_eq {l l' : List Rw} {r : Bool} (h : decide (l = l') = r) {v v' : Value} {w : World} (ht : Rs w v l) (ht' : Rs w v' l') :
    Calls Tryz.prog 12 #[v, v'] w fun e w' => e = .returned (.bool r) ∧ Below w.heap.size w w' := by
  rw [← h]; exact lwRows_any v v' l l' w ht ht'
set_option maxHeartbeats 4000000 in
theorem lwItems_any (v v' : Value) (l l' : List It) (w : World) (h : Is w v l) (h' : Is w v' l') :
    Calls Tryz.prog 42 #[v, v'] w fun e w' => e = .returned (.bool (decide (l = l'))) ∧ Below w.heap.size w w' := by
  obtain ⟨a, cap, rfl, hc, hm, hn, hcells⟩ := Is.open h
  obtain ⟨a', cap', rfl, hc', hm', hn', hcells'⟩ := Is.open h'
  unfold maxLen at hm hm'
  have HC := (show Hid _ from hcells)
  have HC' := (show Hid _ from hcells')
  clear hcells hcells' h h'
  by_cases hlen : l.length = l'.length
  · have HE : Hid (l.length = l'.length) := hlen
    rw [← hlen] at hc' HC' ⊢
    clear hlen hn'
    go_enter Tryz.func42, Tryz.ntmps42
    go_wp2_with fail
    go_loopw [5] (fun i wr => ∃ k : Nat, k ≤ l.length ∧ i = .int .i64 k ∧ (∀ j : Nat, j < k → l[j]? = l'[j]?) ∧ Below w.heap.size w wr) (fun i _ => l.length - (intOf i).toNat)
    case atStart => exact ⟨0, by omega, rfl, fun j hj => by omega, Below.refl _ _⟩
    case round =>
      obtain ⟨k, hk, rfl, hall, hb⟩ := hrel
      have HA := (show Hid _ from hall)
      clear hall
      by_cases hlt : k < l.length
      · obtain ⟨g, off, K, V, D, rfl, hg, hr, c0, c1, c2⟩ := HC.out k hlt
        obtain ⟨g', off', K', V', D', rfl, hg', hr', p0, p1, p2⟩ := HC'.out k hlt
        have d0 := cell_below hb c0
        have d1 := cell_below hb c1
        have d2 := cell_below hb c2
        have e0 := cell_below hb p0
        have e1 := cell_below hb p1
        have e2 := cell_below hb p2
        clear c0 c1 c2 p0 p1 p2
        have HN : Hid ((((K, V)), D) ≠ (((K', V')), D') → decide (l = l') = false) := fun h => decide_eq_false fun e => h (by rw [e, hr'] at hr; exact (Option.some.inj hr).symm)
        have HY : Hid ((((K, V)), D) = (((K', V')), D') → ∀ j : Nat, j < k + 1 → l[j]? = l'[j]?) := fun h j hj => by
          by_cases e : j = k
          · subst e; rw [hr, hr', h]
          · exact HA.out j (by omega)
        clear hr hr'
        have ik : ((k : Int) < (l.length : Int)) := by omega
        by_cases h0 : K = K'
        · subst h0
          by_cases h1 : V = V'
          · subst h1
            by_cases h2 : D = D'
            · subst h2
              go_wp2_with fail
              go_quiet (fail)
              go_wp2_with fail
              go_roundw
              case rel => exact ⟨k + 1, by omega, by go_num, HY.out (by simp), bDrewN hb _⟩
              case measure => simp [intOf]; omega
            · have nx : (D == D') = false := beq_eq_false_iff_ne.2 h2
              go_wp2_with fail
              go_quiet (fail)
              go_wp2_with fail
              go_ret
              exact ⟨ret_bool (HN.out (fun h => h2 (by simp at h; simp [h]))).symm, bDrewN hb _⟩
          · have nx : (V == V') = false := beq_eq_false_iff_ne.2 h1
            go_wp2_with fail
            go_quiet (fail)
            go_wp2_with fail
            go_ret
            exact ⟨ret_bool (HN.out (fun h => h1 (by simp at h; simp [h]))).symm, bDrewN hb _⟩
        · have nx : (K == K') = false := beq_eq_false_iff_ne.2 h0
          go_wp2_with fail
          go_quiet (fail)
          go_wp2_with fail
          go_ret
          exact ⟨ret_bool (HN.out (fun h => h0 (by simp at h; simp [h]))).symm, bDrewN hb _⟩
      · go_wp2_with fail
        go_ret
        exact ⟨ret_bool (decide_eq_true (rows_eq HE.out fun j hj => HA.out j (by omega))).symm, hb⟩
  · have hd : decide (l = l') = false := decide_eq_false fun e => hlen (by rw [e])
    rw [hd]
    have hne : ((l.length : Int) == (l'.length : Int)) = false := beq_eq_false_iff_ne.2 (by omega)
    generalize l.length = n at *
    generalize l'.length = n' at *
    go_enter Tryz.func42, Tryz.ntmps42
    go_wp2_with fail
    go_ret
    exact ⟨rfl, Below.refl _ _⟩
theorem lwItems_eq {l l' : List It} {r : Bool} (h : decide (l = l') = r) {v v' : Value} {w : World} (ht : Is w v l) (ht' : Is w v' l') :
    Calls Tryz.prog 42 #[v, v'] w fun e w' => e = .returned (.bool r) ∧ Below w.heap.size w w' := by
  rw [← h]; exact lwItems_any v v' l l' w ht ht'
end Go.Proofs.YtjkojbafifbdgaaGreat

/-! Do rows say the same, at all times at a front, or behind it: the contract. -/
namespace Go.Proofs.YtjkojbafifbdgaaGreat
open Go.RowKit

/-- Whether a time is asked of. -/
def askedB (f : List (Int × Int)) (x y : Int) : Bool := decide (f.length = 0) || (fokB f && anyB f x y)
theorem implAt_k {l : List Rw} {x y : Int} {L : List It} (e : itemsL l x y = L) {v : Value} {w : World} (h : Rs w v l) :
    Calls Tryz.prog 87 #[v, tv x y] w fun e w' => ∃ o : Value, e = .returned o ∧ Is w' o L ∧ Below w.heap.size w w' := by
  subst e
  refine (implAt_any v l x y w h).mono ?_
  rintro e w' ⟨o, rfl, own, hb⟩
  exact ⟨o, rfl, OwnI.is own (by have := items_len l x y; omega), hb⟩
theorem selfI (l : List It) : decide (l = l) = true := by simp
theorem selfR (l : List Rw) : decide (l = l) = true := by simp
end Go.Proofs.YtjkojbafifbdgaaGreat

/-! Contracts of chapter 2 in the form in which the laws use them. -/
namespace Go.Proofs.YtjkojbafifbdgaaGreat
open Go.RowKit

theorem ofOwnR {f : FuncId} {args : Array Value} {w : World} {L M : List Rw} (e : M = L) (hl : M.length ≤ 2097152) (h : Calls Tryz.prog f args w fun e w' => ∃ o : Value, e = .returned o ∧ OwnR w' w.heap.size o M ∧ Below w.heap.size w w') :
    Calls Tryz.prog f args w fun e w' => ∃ o : Value, e = .returned o ∧ Rs w' o L ∧ Below w.heap.size w w' := by
  subst e
  refine h.mono ?_
  rintro e w' ⟨o, rfl, own, hb⟩
  exact ⟨o, rfl, OwnR.rs own hl, hb⟩
theorem ofOwnI {f : FuncId} {args : Array Value} {w : World} {L M : List It} (e : M = L) (hl : M.length ≤ 2097152) (h : Calls Tryz.prog f args w fun e w' => ∃ o : Value, e = .returned o ∧ OwnI w' w.heap.size o M ∧ Below w.heap.size w w') :
    Calls Tryz.prog f args w fun e w' => ∃ o : Value, e = .returned o ∧ Is w' o L ∧ Below w.heap.size w w' := by
  subst e
  refine h.mono ?_
  rintro e w' ⟨o, rfl, own, hb⟩
  exact ⟨o, rfl, OwnI.is own hl, hb⟩
theorem ofOwnT {f : FuncId} {args : Array Value} {w : World} {L M : List (Int × Int)} (e : M = L) (hl : M.length ≤ 2097152) (h : Calls Tryz.prog f args w fun e w' => ∃ o : Value, e = .returned o ∧ Own w' w.heap.size o M ∧ Below w.heap.size w w') :
    Calls Tryz.prog f args w fun e w' => ∃ o : Value, e = .returned o ∧ Ts w' o L ∧ Below w.heap.size w w' := by
  subst e
  refine h.mono ?_
  rintro e w' ⟨o, rfl, own, hb⟩
  exact ⟨o, rfl, Own.ts own hl, hb⟩
theorem implBatchOf_k {l L : List Rw} (e : batchL l = L) {v : Value} {w : World} (h : Rs w v l) : Calls Tryz.prog 47 #[v] w fun e w' => ∃ o : Value, e = .returned o ∧ Rs w' o L ∧ Below w.heap.size w w' :=
  ofOwnR e (by have := batch_len l; omega) (implBatchOf_any v l w h)
theorem specBatchOf_k {l L : List Rw} (e : batchL l = L) {v : Value} {w : World} (h : Rs w v l) : Calls Tryz.prog 93 #[v] w fun e w' => ∃ o : Value, e = .returned o ∧ Rs w' o L ∧ Below w.heap.size w w' :=
  ofOwnR e (by have := batch_len l; omega) (specBatchOf_any v l w h)
theorem implMoveB_k {l L : List Rw} {f : List (Int × Int)} (e : bmoveL l f = L) {v v' : Value} {w : World} (h : Rs w v l) (h' : Ts w v' f) : Calls Tryz.prog 13 #[v, v'] w fun e w' => ∃ o : Value, e = .returned o ∧ Rs w' o L ∧ Below w.heap.size w w' :=
  ofOwnR e (by have := bmove_len l f; omega) (implMove2_any v v' l f w h h')
theorem implTimesB_k {l : List Rw} {L : List (Int × Int)} (e : timesL l = L) {v : Value} {w : World} (h : Rs w v l) : Calls Tryz.prog 53 #[v] w fun e w' => ∃ o : Value, e = .returned o ∧ Ts w' o L ∧ Below w.heap.size w w' :=
  ofOwnT e (by have := times_len l; omega) (implTimes2_any v l w h)
theorem nilR (w : World) : Rs w (.slice none 0 0) [] := OwnR.rs (ownK_nil rowC 5 74 w 0) (by simp)
theorem nilI (w : World) : Is w (.slice none 0 0) [] := OwnI.is (ownK_nil itC 3 112 w 0) (by simp)
theorem nilT (w : World) : Ts w (.slice none 0 0) [] := ⟨none, 0, rfl, Nat.le_refl _, by unfold maxLen; omega, by simp, fun i hi => by simp at hi⟩
end Go.Proofs.YtjkojbafifbdgaaGreat

/-! What batches say that are summed up, moved, put together: plain facts for the laws of chapter 2. -/
namespace Go.Proofs.YtjkojbafifbdgaaGreat
open Go.RowKit

theorem sm_rok {l : List Rw} (hl : l.length ≤ 400) (h : ∀ r ∈ l, smR r) : rokB l = true := rok_mk hl fun r hr => (h r hr).1
theorem mv_pair (f : List (Int × Int)) (x y : Int) : moveV f x y = ((moveV f x y).1, (moveV f x y).2) := rfl
theorem mv_ok {f : List (Int × Int)} (hf : fokB f = true) {r : Rw} (hr : rwOkB r = true) : rwOkB (mvR f r) = true := by
  have h1 := move_ok hf (rw_time hr) (mv_pair f r.1.2.1 r.1.2.2)
  simp only [rwOkB, Bool.and_eq_true] at hr ⊢
  exact ⟨⟨hr.1.1, h1⟩, hr.2⟩
theorem mv_rok {f : List (Int × Int)} (hf : fokB f = true) {l : List Rw} (h : rokB l = true) : rokB (moveL f l) = true := by
  refine rok_mk (by simp [moveL]; exact rok_len h) fun r hr => ?_
  obtain ⟨q, hq, rfl⟩ := List.mem_map.1 hr
  exact mv_ok hf (rok_at h hq)
theorem mv_sum {f : List (Int × Int)} (hf : fokB f = true) {l : List Rw} (h : rokB l = true) (ha : absum l ≤ 99999) : bmoveL l f = sumL ltS (moveL f l) := by
  rw [bmove_yes h hf]
  have h1 := mv_rok hf h
  exact sumF_ok (sum_rok (rok_len h1) (fun r hr => rw_parts (rok_at h1 hr)) (by rw [move_abs]; exact ha))
theorem wsum_move (g : Sp → Int) (f : List (Int × Int)) (l : List Rw) : wsum g (moveL f l) = wsum (fun s => g (s.1, moveV f s.2.1 s.2.2)) l := by
  unfold moveL
  induction l with
  | nil => rfl
  | cons r l ih => simp only [List.map_cons, wsum, ih]; rfl
theorem bmove_rok (l : List Rw) (f : List (Int × Int)) : rokB (bmoveL l f) = true := by
  unfold bmoveL; split
  · exact bok_rok (sumF_bok _)
  · exact rok_nil
theorem bmove_bok (l : List Rw) (f : List (Int × Int)) : bokB (bmoveL l f) = true := by
  unfold bmoveL; split
  · exact sumF_bok _
  · exact bok_nil
theorem move_items {f : List (Int × Int)} (hf : fokB f = true) {l : List Rw} (h : rokB l = true) (ha : absum l ≤ 99999) {X Y : Int} (hX : okB X Y = true) (hc : askedB f X Y = true) : itemsL l X Y = itemsL (bmoveL l f) X Y := by
  rw [items_yes h hX, items_yes (bmove_rok l f) hX]
  refine sumL_congr ltT_ord fun th => ?_
  rw [at_tot, at_tot, mv_sum hf h ha, sumL_wsum ltS_ord, wsum_move]
  refine wsum_congr fun r hr => ?_
  have ht := rw_time (rok_at h hr)
  have e : leB r.1.2.1 r.1.2.2 X Y = leB (moveV f r.1.2.1 r.1.2.2).1 (moveV f r.1.2.1 r.1.2.2).2 X Y := by
    by_cases h0 : f.length = 0
    · obtain ⟨e1, e2⟩ := move_empty hf ht (mv_pair f r.1.2.1 r.1.2.2) h0
      rw [e1, e2]
    · unfold askedB at hc
      simp only [Bool.or_eq_true, decide_eq_true_eq, Bool.and_eq_true] at hc
      rcases hc with hc | hc
      · exact absurd hc h0
      · exact move_same hf ht (mv_pair f r.1.2.1 r.1.2.2) hc.2
  simp only [e]
theorem batch_items {l : List Rw} (h : rokB l = true) (ha : absum l ≤ 99999) (X Y : Int) : itemsL l X Y = itemsL (batchL l) X Y := (items_batch h ha X Y).symm
theorem mem_move {f : List (Int × Int)} {l : List Rw} {r : Rw} (h : r ∈ sumL ltS (moveL f l)) : ∃ q ∈ l, r.1.2 = moveV f q.1.2.1 q.1.2.2 := by
  obtain ⟨q, hq, e⟩ := sumL_key h
  obtain ⟨q', hq', rfl⟩ := List.mem_map.1 hq
  exact ⟨q', hq', by rw [← e]; rfl⟩
/-- A batch that was moved is where it is moved to. -/
theorem bmove_mem {l : List Rw} {f : List (Int × Int)} {r : Rw} (h : r ∈ bmoveL l f) : fokB f = true ∧ ∃ q ∈ l, okB q.1.2.1 q.1.2.2 = true ∧ r.1.2 = moveV f q.1.2.1 q.1.2.2 := by
  unfold bmoveL at h
  split at h
  · rename_i hc
    rw [Bool.and_eq_true] at hc
    unfold sumF fitL at h
    split at h
    · obtain ⟨q, hq, e⟩ := mem_move h
      exact ⟨hc.2, q, hq, rw_time (rok_at hc.1 hq), e⟩
    · simp at h
  · simp at h
theorem bmove_twice (l : List Rw) (f : List (Int × Int)) : bmoveL (bmoveL l f) f = bmoveL l f := by
  cases hf : fokB f
  · rw [bmove_no2 hf, bmove_no2 hf]
  · rw [bmove_yes (bmove_rok l f) hf]
    have e : moveL f (bmoveL l f) = bmoveL l f := by
      unfold moveL
      conv => rhs; rw [← List.map_id (bmoveL l f)]
      refine List.map_congr_left fun r hr => ?_
      obtain ⟨_, q, _, hq, e⟩ := bmove_mem hr
      have := move_twice hf hq (mv_pair f q.1.2.1 q.1.2.2)
      show ((r.1.1, moveV f r.1.2.1 r.1.2.2), r.2) = r
      rw [e, this]
      exact Prod.ext (Prod.ext rfl (by rw [e])) rfl
    rw [e]
    exact sumF_self (bmove_bok l f)
theorem bmove_few (l : List Rw) (f : List (Int × Int)) : (bmoveL l f).length ≤ l.length := by
  unfold bmoveL; split
  · exact Nat.le_trans (sumF_len _) (by simp [moveL])
  · simp
theorem one_cov {f : List (Int × Int)} (hf : fokB f = true) (h1 : f.length = 1) {x y : Int} (hx : okB x y = true) : anyB f (moveV f x y).1 (moveV f x y).2 = true := by
  obtain ⟨p, rfl⟩ := List.length_eq_one_iff.1 h1
  have hp := fok_ok hf (k := 0) (by simp)
  obtain ⟨_, h2, h3⟩ := move_facts hf hx (mv_pair [p] x y) (by simp)
  have h4 := h3 _ _ (fun i hi => by
    obtain rfl : i = 0 := by simpa using hi
    exact leB_self (jnA x y (tA [p] 0) (tB [p] 0)) (jnB x y (tA [p] 0) (tB [p] 0)) ▸ jn_ok hx hp)
  have h5 := leB_trans (jn_right hx hp) h4
  refine any_iff.2 ⟨p, by simp, ?_⟩
  exact h5
theorem bmove_cov {l : List Rw} {f : List (Int × Int)} (h1 : f.length = 1) {r : Rw} (hr : r ∈ bmoveL l f) : (fokB f && anyB f r.1.2.1 r.1.2.2) = true := by
  obtain ⟨hf, q, _, hq, e⟩ := bmove_mem hr
  rw [hf, Bool.true_and, e]
  exact one_cov hf h1 hq
theorem bothB_sum {a b : List Rw} (ha : rokB a = true) (hb : rokB b = true) (hl : a.length + b.length ≤ 400) (hs : absum a + absum b ≤ 99999) : bothB a b = sumL ltS (a ++ b) := by
  rw [bothB_yes ha hb]
  refine sumF_ok (sum_rok (by rw [List.length_append]; exact hl) (fun r hr => ?_) (by rw [absum_append]; exact hs))
  rcases List.mem_append.1 hr with hr | hr
  · exact rw_parts (rok_at ha hr)
  · exact rw_parts (rok_at hb hr)
theorem bothB_rok (a b : List Rw) : rokB (bothB a b) = true := by
  unfold bothB; split
  · exact bok_rok (sumF_bok _)
  · exact rok_nil
theorem put_absR (r : Rw) (l : List Rw) : absum (putL ltS r l) ≤ r.2.natAbs + absum l := by
  induction l with
  | nil => simp [putL, absum]
  | cons x l ih =>
    unfold putL
    by_cases h1 : ltS r.1 x.1 = true
    · rw [if_pos h1]; simp only [absum]; omega
    · rw [if_neg h1]
      by_cases h2 : ltS x.1 r.1 = true
      · rw [if_pos h2]; simp only [absum]; omega
      · rw [if_neg h2]; simp only [absum]; omega
theorem sumA_absR (l : List Rw) : absum (sumA ltS l) ≤ absum l := by
  induction l using snoc_ind with
  | h0 => simp [sumA]
  | h1 l r ih =>
    rw [sumA_snoc, absum_append]
    have := put_absR r (sumA ltS l)
    simp only [absum]
    omega
theorem abs_filterR (l : List Rw) (p : Rw → Bool) : absum (l.filter p) ≤ absum l := by
  induction l with
  | nil => simp
  | cons r l ih =>
    rw [List.filter_cons]
    split
    · simp only [absum]; omega
    · simp only [absum]; omega
theorem sum_absR (l : List Rw) : absum (sumL ltS l) ≤ absum l := Int.le_trans (abs_filterR _ _) (sumA_absR l)
theorem sumF_absR (l : List Rw) : absum (sumF l) ≤ absum l := by
  unfold sumF fitL; split
  · exact sum_absR l
  · exact absum_pos l
theorem bothB_abs (a b : List Rw) : absum (bothB a b) ≤ absum a + absum b := by
  unfold bothB; split
  · rw [← absum_append]; exact sumF_absR _
  · have := absum_pos a; have := absum_pos b; simp only [absum]; omega
theorem bmove_abs (l : List Rw) (f : List (Int × Int)) : absum (bmoveL l f) ≤ absum l := by
  unfold bmoveL; split
  · rw [← move_abs f l]; exact sumF_absR _
  · exact absum_pos l
theorem move_both {a b : List Rw} {f : List (Int × Int)} (hf : fokB f = true) (ha : rokB a = true) (hb : rokB b = true) (la : a.length ≤ 11) (lb : b.length ≤ 11) (aa : absum a ≤ 33) (ab : absum b ≤ 33) :
    bmoveL (bothB a b) f = bothB (bmoveL a f) (bmoveL b f) := by
  have l1 := bmove_few a f
  have l2 := bmove_few b f
  have a1 := bmove_abs a f
  have a2 := bmove_abs b f
  have a3 := bothB_abs a b
  rw [mv_sum hf (bothB_rok a b) (by omega), bothB_sum (bmove_rok a f) (bmove_rok b f) (by omega) (by omega), bothB_sum ha hb (by omega) (by omega), mv_sum hf ha (by omega), mv_sum hf hb (by omega)]
  refine sumL_congr ltS_ord fun s => ?_
  rw [tot_append, sumL_tot ltS_ord, sumL_tot ltS_ord, tot_eq_wsum, tot_eq_wsum, tot_eq_wsum, wsum_move, wsum_move, wsum_move, sumL_wsum ltS_ord, wsum_append]
theorem times_few {l : List Rw} : (timesL l).length ≤ l.length := by
  unfold timesL; split
  · rename_i h
    have hs := times_srt l 64
    have hn : (timesTo l 64).Nodup := hs.imp fun {p q} hlt e => by subst e; rw [ltT_ord.irr] at hlt; cases hlt
    have hsub : ∀ t ∈ timesTo l 64, t ∈ l.map fun r => r.1.2 := fun t ht => by
      obtain ⟨r, hr, e⟩ := (times_mem h t).1 ht
      exact List.mem_map.2 ⟨r, hr, e⟩
    have := hn.length_le_of_subset hsub
    simpa using this
  · simp
theorem ahead_none {l : List Rw} (h : rokB l = true) {X Y : Int} (hX : okB X Y = true) (hc : (fokB (frontL (timesL l)) && anyB (frontL (timesL l)) X Y) = false) : itemsL l X Y = [] := by
  have ha : aokB (timesL l) = true := by
    refine aok_of_mem fun p hp => ?_
    rw [times_yes h] at hp
    obtain ⟨r, hr, rfl⟩ := (times_mem h p).1 hp
    exact rw_time (rok_at h hr)
  rw [front_fok, Bool.true_and, front_any ha] at hc
  rw [items_yes h hX]
  have e : atL l X Y = [] := by
    unfold atL
    rw [List.map_eq_nil_iff, List.filter_eq_nil_iff]
    intro r hr
    rw [Bool.not_eq_true, Bool.eq_false_iff]
    intro hle
    rw [Bool.eq_false_iff] at hc
    refine hc (any_iff.2 ⟨r.1.2, ?_, hle⟩)
    rw [times_yes h]
    exact (times_mem h _).2 ⟨r, hr, rfl⟩
  rw [e]; rfl
end Go.Proofs.YtjkojbafifbdgaaGreat
