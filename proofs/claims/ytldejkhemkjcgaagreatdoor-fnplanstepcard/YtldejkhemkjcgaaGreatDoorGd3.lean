import Derived.Test.YtldejkhemkjcgaaGreatDoorGd1
import Derived.Test.YtldejkhemkjcgaaGreatDoorGa8
import Derived.Test.YtldejkhemkjcgaaGreatDoorGs2
import Derived.Test.YtldejkhemkjcgaaGreatDoorGb1
import Derived.Test.YtldejkhemkjcgaaGreatDoorGb0
import Derived.Test.YtldejkhemkjcgaaGreatDoorGa5
import Derived.Test.YtldejkhemkjcgaaGreatDoorGs7
import Derived.Deep.RegionHeld3
import Derived.Test.YtldejkhemkjcgaaGreatDoorGs6
namespace Go.Proofs.YtldejkhemkjcgaaGreatDoor
open Go.RowKit
def drR (l : List Rw) : Prop := l.length ≤ 11 ∧ (rokB l = true → ∀ r ∈ l, smR r)
theorem drR.abs {l : List Rw} (h : drR l) (hk : rokB l = true) : absum l ≤ 33 := by
  have h1 := absum_le (l := l) (c := 3) fun r hr => (h.2 hk r hr).2
  have h2 := h.1
  have : (3 : Int) * l.length ≤ 33 := by omega
  omega
set_option maxHeartbeats 4000000 in
theorem l71Any_any {B : Nat} {w : World} {g : Nat} {v : Value} {n : Nat} {p : Int} (h : Rd B w g v n p) (hp : 0 ≤ p) (hp' : p ≤ 600000) :
    Calls Tryz.prog 43 #[.pointer (some ⟨g, 0, none⟩)] w fun e w' => ∃ (o : Value) (l : List Rw), e = .returned o ∧ drR l ∧ OwnR w' w.heap.size o l ∧ (∃ p' : Int, p ≤ p' ∧ p' ≤ p + 700 ∧ Rd B w' g v n p') ∧ Bx g w w' := by
  have hg := h.blk.lt
  go_enter Tryz.func43, Tryz.ntmps43
  go_wp2_with fail
  refine (l71Rows_any h hp (by omega) 10 (by omega) (by omega)).mono ?_
  rintro e w1 ⟨o, l, rfl, hl, hsm, hown, ⟨p1, hp1, hp2, hr1⟩, hx1⟩
  have hs1 := hx1.size
  have HO : Hid (OwnR w1 w.heap.size o l) := hown
  have HS : Hid (∀ r ∈ l, smR r) := hsm
  clear hown hsm
  go_wp2_with fail
  refine (pick_any hr1 (by omega) (by omega) _ (by omega) (by omega)).mono ?_
  rintro e w2 ⟨k, rfl, hk0, hk1, hr2, hx2⟩
  have hx12 := hx1.trans hx2
  have HO2 : Hid (OwnR w2 w.heap.size o l) := own_keepx HO.out hx2 hg
  have hs2 := hx12.size
  by_cases hk : k = 0
  · subst hk
    go_wp2_with fail
    refine (l71Spoil_any hr2 (by omega) (by omega) o l (OwnR.rs HO2.out (by omega)) (by omega) (fun W hW => OwnR.rs (own_keepx HO2.out hW hg) (by omega))).mono ?_
    rintro e w3 ⟨o3, l3, rfl, hl3, hb3, hown3, ⟨p3, hp3, hp4, hr3⟩, hx3⟩
    have HO3 : Hid (OwnR w3 w2.heap.size o3 l3) := hown3
    clear hown3
    go_wp2_with fail
    go_ret
    exact ⟨_, l3, rfl, ⟨by omega, fun e => by rw [hb3] at e; cases e⟩, own_less HO3.out hs2, ⟨p3, by omega, by omega, hr3⟩, hx12.trans hx3⟩
  · have hkb : (k == 0) = false := by simpa using hk
    go_wp2_with fail
    go_ret
    exact ⟨_, l, rfl, ⟨by omega, fun _ => HS.out⟩, HO2.out, ⟨_, by omega, by omega, hr2⟩, hx12⟩
set_option maxHeartbeats 4000000 in
theorem l71Batch_any {B : Nat} {w : World} {g : Nat} {v : Value} {n : Nat} {p : Int} (h : Rd B w g v n p) (hp : 0 ≤ p) (hp' : p ≤ 600000) (most : Int) (hm0 : 0 ≤ most) (hm1 : most ≤ 10) :
    Calls Tryz.prog 41 #[.pointer (some ⟨g, 0, none⟩), .int .i64 most] w fun e w' => ∃ (o : Value) (l : List Rw), e = .returned o ∧ (l.length : Int) ≤ most ∧ (∀ r ∈ l, smR r) ∧ OwnR w' w.heap.size o (batchL l) ∧ (∃ p' : Int, p ≤ p' ∧ p' ≤ p + 600 ∧ Rd B w' g v n p') ∧ Bx g w w' := by
  go_enter Tryz.func41, Tryz.ntmps41
  go_wp2_with fail
  refine (l71Rows_any h hp (by omega) most hm0 hm1).mono ?_
  rintro e w1 ⟨o, l, rfl, hl, hsm, hown, ⟨p1, hp1, hp2, hr1⟩, hx1⟩
  have hs1 := hx1.size
  have HS : Hid (∀ r ∈ l, smR r) := hsm
  have R1 : Rs w1 o l := OwnR.rs hown (by omega)
  clear hown hsm
  go_wp2_with fail
  refine (specBatchOf_any o l _ R1).mono ?_
  rintro e w2 ⟨o2, rfl, own2, hb2⟩
  have HO : Hid (OwnR w2 w1.heap.size o2 (batchL l)) := own2
  clear own2
  go_wp2_with fail
  go_ret
  exact ⟨_, l, rfl, hl, HS.out, own_less HO.out hs1, ⟨p1, hp1, hp2, hr1.keepb hb2⟩, hx1.trans (Bx.of_below hb2)⟩
set_option maxHeartbeats 4000000 in
theorem drawBatchMove_any (a : Option Addr) (len cap : Nat) (w : World) (h : Src w (.slice a len cap) len) :
    Calls Tryz.prog 23 #[.slice a len cap] w fun e w' => ∃ (o o' : Value) (l : List Rw) (f : List (Int × Int)), e = .returned (.tuple #[o, o']) ∧ drR l ∧ f.length ≤ 65 ∧ Rs w' o l ∧ Ts w' o' f ∧ Below w.heap.size w w' := by
  go_enter Tryz.func23, Tryz.ntmps23
  go_wp2_with fail
  refine (l6Open_any _ _ _ _ h).mono ?_
  rintro e w1 ⟨rfl, ⟨v, n, hr1⟩, hb1⟩
  clear h
  have hs1 := hb1.size
  have hg := hr1.blk.lt
  go_wp2_with fail
  refine (l71Any_any hr1 (by omega) (by omega)).mono ?_
  rintro e w2 ⟨o, l, rfl, hd, hown, ⟨p1, hp1, hp2, hr2⟩, hx2⟩
  have HO : Hid (OwnR w2 w1.heap.size o l) := hown
  clear hown
  go_wp2_with fail
  refine (l71Some_any hr2 (by omega) (by omega)).mono ?_
  rintro e w3 ⟨o', f, rfl, hl', hown', -, hx3⟩
  have R3' : Hid (Ts w3 o' f) := Own.ts hown' (by omega)
  have R3 : Hid (Rs w3 o l) := OwnR.rs (own_keepx HO.out hx3 hg) (by have := hd.1; omega)
  clear hown' HO
  go_wp2_with fail
  refine bodyPost_ret (by simp [results, Tryz.results23, go_sem]; try rfl) rfl ?_
  exact ⟨o, o', l, f, rfl, hd, hl', R3.out, R3'.out, (hx2.trans hx3).below hb1 hs1 (Nat.le_refl _)⟩
theorem Rs.setNew {w : World} {v : Value} {l : List Rw} {B : Nat} {p : Addr} (h : OwnR w B v l) (hp : p.block < B) (u : Value) : OwnR (w.setCell p u) B v l :=
  own_move h fun k hk _ => Below.heap_setCell _ _ _ _ (by omega)
set_option maxHeartbeats 4000000 in
theorem drawBatchAt_any (a : Option Addr) (len cap : Nat) (w : World) (h : Src w (.slice a len cap) len) :
    Calls Tryz.prog 27 #[.slice a len cap] w fun e w' => ∃ (o : Value) (l : List Rw) (x y : Int), e = .returned (.tuple #[o, tv x y]) ∧ drR l ∧ Rs w' o l ∧ Below w.heap.size w w' := by
  have bR : Bk (w.alloc (.cells #[.int .i64 0, .int .i64 0] 41)) w.heap.size #[.int .i64 0, .int .i64 0] 41 := Bk.new _ _ rfl
  have hb0 : Below w.heap.size w (w.alloc (.cells #[.int .i64 0, .int .i64 0] 41)) := bAlloc (Below.refl _ _) _
  have hsz : (w.alloc (.cells #[.int .i64 0, .int .i64 0] 41)).heap.size = w.heap.size + 1 := by simp
  go_enter Tryz.func27, Tryz.ntmps27
  go_wp2_with fail
  generalize (w.alloc (.cells #[.int .i64 0, .int .i64 0] 41)) = W at *
  refine (l6Open_any _ _ _ _ (h.keep hb0)).mono ?_
  rintro e w1 ⟨rfl, ⟨v, n, hr1⟩, hbw⟩
  have b1 := bR.keep hbw
  have hb1 := bStep hb0 hbw
  have HS : Hid (W.heap.size = w.heap.size + 1) := hsz
  clear hsz bR hb0 h
  have lg := hr1.blk.lt
  go_wp2_with fail
  refine (l71Any_any hr1 (by omega) (by omega)).mono ?_
  rintro e w2 ⟨o, l, rfl, hd, hown, ⟨p1, hp1, hp2, hr2⟩, hx2⟩
  have hsz := HS.out
  have b2 := b1.keepx hx2 (by omega)
  have hb2 : Below w.heap.size w w2 := hx2.below hb1 hb1.size (by omega)
  have HO : Hid (OwnR w2 w1.heap.size o l) := hown
  clear hsz hown
  go_wp2_with fail
  refine (l71Odd_any hr2 (by omega) (by omega)).mono ?_
  rintro e w3 ⟨x, y, rfl, _, _, _, _, ⟨p2, hp3, hp4, hr3⟩, hx3⟩
  have hsz := HS.out
  have b3 := b2.keepx hx3 (by omega)
  have hb3 : Below w.heap.size w w3 := hx3.below hb2 hb2.size (by omega)
  have own3 : OwnR w3 w1.heap.size o l := own_keepx HO.out hx3 (by omega)
  have n1 : W.heap.size ≤ w1.heap.size := hbw.size
  obtain ⟨r0, r1, f0, f1⟩ := b3.two
  have HO3 : Hid (OwnR w3 w1.heap.size o l) := own3
  clear own3 hsz
  go_wp2_with fail
  refine bodyPost_ret (by simp [results, Tryz.results27, go_sem, set1a b3, set2b b3]; try rfl) rfl ?_
  refine ⟨o, l, x, y, rfl, hd, ?_, (hb3.setCell (by simp) _).setCell (by simp) _⟩
  have hsz := HS.out
  have hl := hd.1
  exact OwnR.rs (Rs.setNew (Rs.setNew HO3.out (by simp; omega) _) (by simp; omega) _) (by omega)
end Go.Proofs.YtldejkhemkjcgaaGreatDoor
namespace Go.Proofs.YtldejkhemkjcgaaGreatDoor
open Go.RowKit
theorem rows_eq {α : Type} {l l' : List α} (hn : l.length = l'.length) (h : ∀ j : Nat, j < l.length → l[j]? = l'[j]?) : l = l' := by
  apply List.ext_getElem?
  intro i
  by_cases hi : i < l.length
  · exact h i hi
  · rw [List.getElem?_eq_none (by omega), List.getElem?_eq_none (by omega)]
set_option maxHeartbeats 4000000 in
theorem lwRows_any (v v' : Value) (l l' : List Rw) (w : World) (h : Rs w v l) (h' : Rs w v' l') :
    Calls Tryz.prog 16 #[v, v'] w fun e w' => e = .returned (.bool (decide (l = l'))) ∧ Below w.heap.size w w' := by
  obtain ⟨a, cap, rfl, hc, hm, hn, hcells⟩ := Rs.open h
  obtain ⟨a', cap', rfl, hc', hm', hn', hcells'⟩ := Rs.open h'
  unfold maxLen at hm hm'
  have HC := (show Hid _ from hcells)
  have HC' := (show Hid _ from hcells')
  clear hcells hcells' h h'
  by_cases hlen : l.length = l'.length
  · have HE : Hid (l.length = l'.length) := hlen
    rw [← hlen] at hc' HC' ⊢
    clear hlen hn'
    go_enter Tryz.func16, Tryz.ntmps16
    go_wp2_with fail
    go_loopw [5] (fun i wr => ∃ k : Nat, k ≤ l.length ∧ i = .int .i64 k ∧ (∀ j : Nat, j < k → l[j]? = l'[j]?) ∧ Below w.heap.size w wr) (fun i _ => l.length - (intOf i).toNat)
    case atStart => exact ⟨0, by omega, rfl, fun j hj => by omega, Below.refl _ _⟩
    case round =>
      obtain ⟨k, hk, rfl, hall, hb⟩ := hrel
      have HA := (show Hid _ from hall)
      clear hall
      by_cases hlt : k < l.length
      · obtain ⟨g, off, K, V, A, B, D, rfl, hg, hr, c0, c1, c2, c3, c4⟩ := HC.out k hlt
        obtain ⟨g', off', K', V', A', B', D', rfl, hg', hr', p0, p1, p2, p3, p4⟩ := HC'.out k hlt
        have d0 := cell_below hb c0
        have d1 := cell_below hb c1
        have d2 := cell_below hb c2
        have d3 := cell_below hb c3
        have d4 := cell_below hb c4
        have e0 := cell_below hb p0
        have e1 := cell_below hb p1
        have e2 := cell_below hb p2
        have e3 := cell_below hb p3
        have e4 := cell_below hb p4
        clear c0 c1 c2 c3 c4 p0 p1 p2 p3 p4
        have HN : Hid ((((K, V), (A, B)), D) ≠ (((K', V'), (A', B')), D') → decide (l = l') = false) := fun h => decide_eq_false fun e => h (by rw [e, hr'] at hr; exact (Option.some.inj hr).symm)
        have HY : Hid ((((K, V), (A, B)), D) = (((K', V'), (A', B')), D') → ∀ j : Nat, j < k + 1 → l[j]? = l'[j]?) := fun h j hj => by
          by_cases e : j = k
          · subst e; rw [hr, hr', h]
          · exact HA.out j (by omega)
        clear hr hr'
        have ik : ((k : Int) < (l.length : Int)) := by omega
        by_cases h0 : K = K'
        · subst h0
          by_cases h1 : V = V'
          · subst h1
            by_cases h2 : A = A'
            · subst h2
              by_cases h3 : B = B'
              · subst h3
                by_cases h4 : D = D'
                · subst h4
                  go_wp2_with fail
                  go_quiet (fail)
                  go_wp2_with fail
                  go_roundw
                  case rel => exact ⟨k + 1, by omega, by go_num, HY.out (by simp), bDrewN hb _⟩
                  case measure => simp [intOf]; omega
                · have nx : (D == D') = false := beq_eq_false_iff_ne.2 h4
                  go_wp2_with fail
                  go_quiet (fail)
                  go_wp2_with fail
                  go_ret
                  exact ⟨ret_bool (HN.out (fun h => h4 (by simp at h; simp [h]))).symm, bDrewN hb _⟩
              · have nx : (B == B') = false := beq_eq_false_iff_ne.2 h3
                go_wp2_with fail
                go_quiet (fail)
                go_wp2_with fail
                go_ret
                exact ⟨ret_bool (HN.out (fun h => h3 (by simp at h; simp [h]))).symm, bDrewN hb _⟩
            · have nx : (A == A') = false := beq_eq_false_iff_ne.2 h2
              go_wp2_with fail
              go_quiet (fail)
              go_wp2_with fail
              go_ret
              exact ⟨ret_bool (HN.out (fun h => h2 (by simp at h; simp [h]))).symm, bDrewN hb _⟩
          · have nx : (V == V') = false := beq_eq_false_iff_ne.2 h1
            go_wp2_with fail
            go_quiet (fail)
            go_wp2_with fail
            go_ret
            exact ⟨ret_bool (HN.out (fun h => h1 (by simp at h; simp [h]))).symm, bDrewN hb _⟩
        · have nx : (K == K') = false := beq_eq_false_iff_ne.2 h0
          go_wp2_with fail
          go_quiet (fail)
          go_wp2_with fail
          go_ret
          exact ⟨ret_bool (HN.out (fun h => h0 (by simp at h; simp [h]))).symm, bDrewN hb _⟩
      · go_wp2_with fail
        go_ret
        exact ⟨ret_bool (decide_eq_true (rows_eq HE.out fun j hj => HA.out j (by omega))).symm, hb⟩
  · have hd : decide (l = l') = false := decide_eq_false fun e => hlen (by rw [e])
    rw [hd]
    have hne : ((l.length : Int) == (l'.length : Int)) = false := beq_eq_false_iff_ne.2 (by omega)
    generalize l.length = n at *
    generalize l'.length = n' at *
    go_enter Tryz.func16, Tryz.ntmps16
    go_wp2_with fail
    go_ret
    exact ⟨rfl, Below.refl _ _⟩
theorem lwRows_eq {l l' : List Rw} {r : Bool} (h : decide (l = l') = r) {v v' : Value} {w : World} (ht : Rs w v l) (ht' : Rs w v' l') :
    Calls Tryz.prog 16 #[v, v'] w fun e w' => e = .returned (.bool r) ∧ Below w.heap.size w w' := by
  rw [← h]; exact lwRows_any v v' l l' w ht ht'
set_option maxHeartbeats 4000000 in
theorem lwItems_any (v v' : Value) (l l' : List It) (w : World) (h : Is w v l) (h' : Is w v' l') :
    Calls Tryz.prog 20 #[v, v'] w fun e w' => e = .returned (.bool (decide (l = l'))) ∧ Below w.heap.size w w' := by
  obtain ⟨a, cap, rfl, hc, hm, hn, hcells⟩ := Is.open h
  obtain ⟨a', cap', rfl, hc', hm', hn', hcells'⟩ := Is.open h'
  unfold maxLen at hm hm'
  have HC := (show Hid _ from hcells)
  have HC' := (show Hid _ from hcells')
  clear hcells hcells' h h'
  by_cases hlen : l.length = l'.length
  · have HE : Hid (l.length = l'.length) := hlen
    rw [← hlen] at hc' HC' ⊢
    clear hlen hn'
    go_enter Tryz.func20, Tryz.ntmps20
    go_wp2_with fail
    go_loopw [5] (fun i wr => ∃ k : Nat, k ≤ l.length ∧ i = .int .i64 k ∧ (∀ j : Nat, j < k → l[j]? = l'[j]?) ∧ Below w.heap.size w wr) (fun i _ => l.length - (intOf i).toNat)
    case atStart => exact ⟨0, by omega, rfl, fun j hj => by omega, Below.refl _ _⟩
    case round =>
      obtain ⟨k, hk, rfl, hall, hb⟩ := hrel
      have HA := (show Hid _ from hall)
      clear hall
      by_cases hlt : k < l.length
      · obtain ⟨g, off, K, V, D, rfl, hg, hr, c0, c1, c2⟩ := HC.out k hlt
        obtain ⟨g', off', K', V', D', rfl, hg', hr', p0, p1, p2⟩ := HC'.out k hlt
        have d0 := cell_below hb c0
        have d1 := cell_below hb c1
        have d2 := cell_below hb c2
        have e0 := cell_below hb p0
        have e1 := cell_below hb p1
        have e2 := cell_below hb p2
        clear c0 c1 c2 p0 p1 p2
        have HN : Hid ((((K, V)), D) ≠ (((K', V')), D') → decide (l = l') = false) := fun h => decide_eq_false fun e => h (by rw [e, hr'] at hr; exact (Option.some.inj hr).symm)
        have HY : Hid ((((K, V)), D) = (((K', V')), D') → ∀ j : Nat, j < k + 1 → l[j]? = l'[j]?) := fun h j hj => by
          by_cases e : j = k
          · subst e; rw [hr, hr', h]
          · exact HA.out j (by omega)
        clear hr hr'
        have ik : ((k : Int) < (l.length : Int)) := by omega
        by_cases h0 : K = K'
        · subst h0
          by_cases h1 : V = V'
          · subst h1
            by_cases h2 : D = D'
            · subst h2
              go_wp2_with fail
              go_quiet (fail)
              go_wp2_with fail
              go_roundw
              case rel => exact ⟨k + 1, by omega, by go_num, HY.out (by simp), bDrewN hb _⟩
              case measure => simp [intOf]; omega
            · have nx : (D == D') = false := beq_eq_false_iff_ne.2 h2
              go_wp2_with fail
              go_quiet (fail)
              go_wp2_with fail
              go_ret
              exact ⟨ret_bool (HN.out (fun h => h2 (by simp at h; simp [h]))).symm, bDrewN hb _⟩
          · have nx : (V == V') = false := beq_eq_false_iff_ne.2 h1
            go_wp2_with fail
            go_quiet (fail)
            go_wp2_with fail
            go_ret
            exact ⟨ret_bool (HN.out (fun h => h1 (by simp at h; simp [h]))).symm, bDrewN hb _⟩
        · have nx : (K == K') = false := beq_eq_false_iff_ne.2 h0
          go_wp2_with fail
          go_quiet (fail)
          go_wp2_with fail
          go_ret
          exact ⟨ret_bool (HN.out (fun h => h0 (by simp at h; simp [h]))).symm, bDrewN hb _⟩
      · go_wp2_with fail
        go_ret
        exact ⟨ret_bool (decide_eq_true (rows_eq HE.out fun j hj => HA.out j (by omega))).symm, hb⟩
  · have hd : decide (l = l') = false := decide_eq_false fun e => hlen (by rw [e])
    rw [hd]
    have hne : ((l.length : Int) == (l'.length : Int)) = false := beq_eq_false_iff_ne.2 (by omega)
    generalize l.length = n at *
    generalize l'.length = n' at *
    go_enter Tryz.func20, Tryz.ntmps20
    go_wp2_with fail
    go_ret
    exact ⟨rfl, Below.refl _ _⟩
theorem lwItems_eq {l l' : List It} {r : Bool} (h : decide (l = l') = r) {v v' : Value} {w : World} (ht : Is w v l) (ht' : Is w v' l') :
    Calls Tryz.prog 20 #[v, v'] w fun e w' => e = .returned (.bool r) ∧ Below w.heap.size w w' := by
  rw [← h]; exact lwItems_any v v' l l' w ht ht'
end Go.Proofs.YtldejkhemkjcgaaGreatDoor
namespace Go.Proofs.YtldejkhemkjcgaaGreatDoor
open Go.RowKit
def askedB (f : List (Int × Int)) (x y : Int) : Bool := decide (f.length = 0) || (fokB f && anyB f x y)
theorem implAt_k {l : List Rw} {x y : Int} {L : List It} (e : itemsL l x y = L) {v : Value} {w : World} (h : Rs w v l) :
    Calls Tryz.prog 21 #[v, tv x y] w fun e w' => ∃ o : Value, e = .returned o ∧ Is w' o L ∧ Below w.heap.size w w' := by
  subst e
  refine (implAt_any v l x y w h).mono ?_
  rintro e w' ⟨o, rfl, own, hb⟩
  exact ⟨o, rfl, OwnI.is own (by have := items_len l x y; omega), hb⟩
theorem selfI (l : List It) : decide (l = l) = true := by simp
theorem selfR (l : List Rw) : decide (l = l) = true := by simp
set_option maxRecDepth 100000 in
set_option maxHeartbeats 8000000 in
theorem lwSame_any (v1 v2 v3 : Value) (l1 l2 : List Rw) (f : List (Int × Int)) (w : World) (h1 : Rs w v1 l1) (h2 : Rs w v2 l2) (h3 : Ts w v3 f) (hsame : ∀ x y : Int, okB x y = true → askedB f x y = true → itemsL l1 x y = itemsL l2 x y) :
    Calls Tryz.prog 26 #[v1, v2, v3] w fun e w' => e = .returned (.bool true) ∧ Below w.heap.size w w' := by
  have H1 : Hid (Rs w v1 l1) := h1
  have H2 : Hid (Rs w v2 l2) := h2
  have H3 : Hid (Ts w v3 f) := h3
  have HS : Hid (∀ x y : Int, okB x y = true → askedB f x y = true → itemsL l1 x y = itemsL l2 x y) := hsame
  obtain ⟨a3, cap3, rfl, hc3, hm3, hn3, -⟩ := h3
  unfold maxLen at hm3
  clear h1 h2 hsame
  go_enter Tryz.func26, Tryz.ntmps26
  go_wp2_with fail
  refine (lwAll_any w).mono ?_
  rintro e w1 ⟨ga, capa, rfl, howna, hga, hb1⟩
  have HA := (show Hid _ from howna)
  have G1 : Hid (Rs w1 v1 l1) := H1.out.keep hb1
  have G2 : Hid (Rs w1 v2 l2) := H2.out.keep hb1
  have G3 : Hid (Ts w1 (.slice a3 f.length cap3) f) := H3.out.keep hb1
  clear howna H1 H2 H3
  go_wp2_with fail
  go_loopw [8] (fun i wr => ∃ k : Nat, k ≤ 64 ∧ i = .int .i64 k ∧ Below w1.heap.size w1 wr) (fun i _ => 64 - (intOf i).toNat)
  case atStart => exact ⟨0, by omega, rfl, Below.refl _ _⟩
  case round =>
    obtain ⟨k, hk, rfl, hb⟩ := hrel
    by_cases hlt : k < 64
    · obtain ⟨c0, c1⟩ := all_cells HA.out hlt
      have d0 := cell_below hb c0
      have d1 := cell_below hb c1
      have HOK : Hid (okB ((k / 8 : Nat) : Int) ((k % 8 : Nat) : Int) = true) := by show _ = _; simp [okB]; omega
      have hga' : ga < w1.heap.size := lt_of_cell c0
      have HX : Hid (∀ W, Below w1.heap.size w1 W → W.cell? ⟨ga, k * 2, none⟩ = some (.int .i64 ((k / 8 : Nat) : Int)) ∧ W.cell? ⟨ga, k * 2 + 1, none⟩ = some (.int .i64 ((k % 8 : Nat) : Int))) :=
        fun W hW => ⟨cell_below hW c0, cell_below hW c1⟩
      have hb0 := hb
      clear c0 c1
      generalize hX : ((k / 8 : Nat) : Int) = X at *
      generalize hY : ((k % 8 : Nat) : Int) = Y at *
      clear hX hY
      have ik : (k : Int) < 64 := by omega
      have HR1 : Hid (∀ W, Below w1.heap.size w1 W → Rs W v1 l1) := fun W hW => G1.out.keep hW
      have HR2 : Hid (∀ W, Below w1.heap.size w1 W → Rs W v2 l2) := fun W hW => G2.out.keep hW
      by_cases hf0 : f.length = 0
      · have HI : Hid (itemsL l2 X Y = itemsL l1 X Y) := (HS.out X Y HOK.out (by simp [askedB, hf0])).symm
        obtain rfl : f = [] := List.eq_nil_of_length_eq_zero hf0
        simp only [List.length_nil] at *
        have hbD := hb.drew
        go_wp2_with fail
        go_region_held3 (fun w' => w'.cell? ⟨ga, k * 2, none⟩ = some (.int .i64 X) ∧ w'.cell? ⟨ga, k * 2 + 1, none⟩ = some (.int .i64 Y))
          (first | exact HX.out _ hbD | exact HX.out _ hbna | exact HX.out _ hbnb | exact HX.out _ hbnc)
          (first
            | (go_at_call 21; with_reducible refine (implAt_k rfl (HR1.out _ hbD)).mono ?_; rintro e wa ⟨oa, rfl, isa, hba⟩; have hbna : Below w1.heap.size w1 wa := bStep hbD hba)
            | (go_at_call 21; with_reducible refine (implAt_k HI.out (HR2.out _ hbna)).mono ?_; rintro e wb ⟨ob, rfl, isb, hbb⟩; have hbnb : Below w1.heap.size w1 wb := bStep hbna hbb; have isa2 := SlK.keep isa hbb)
            | (go_at_call 20; with_reducible refine (lwItems_eq (selfI _) isa2 isb).mono ?_; rintro e wc ⟨rfl, hbc⟩; have hbnc : Below w1.heap.size w1 wc := bStep hbnb hbc))
        all_goals
          go_wp2_with fail
          go_roundw
          case rel => exact ⟨k + 1, by omega, by go_num, hbnc⟩
          case measure => simp [intOf]; omega
      · have hpos : 0 < f.length := by omega
        cases hcv : (fokB f && anyB f X Y)
        · go_wp2_with fail
          refine (specCovers_eq hcv (G3.out.keep hb)).mono ?_
          rintro e wd ⟨rfl, hbd⟩
          have hbnd := bStep hb hbd
          go_wp2_with fail
          go_roundw
          case rel => exact ⟨k + 1, by omega, by go_num, hbnd⟩
          case measure => simp [intOf]; omega
        · have HI : Hid (itemsL l2 X Y = itemsL l1 X Y) := (HS.out X Y HOK.out (by simp [askedB]; exact .inr (by simpa using hcv))).symm
          go_wp2_with fail
          refine (specCovers_eq hcv (G3.out.keep hb)).mono ?_
          rintro e wd ⟨rfl, hbd⟩
          have hbnd := bStep hb hbd
          obtain ⟨e0, e1⟩ := HX.out _ hbnd
          clear hb d0 d1
          have hbD := hbnd.drew
          go_wp2_with fail
          go_region_held3 (fun w' => w'.cell? ⟨ga, k * 2, none⟩ = some (.int .i64 X) ∧ w'.cell? ⟨ga, k * 2 + 1, none⟩ = some (.int .i64 Y))
            (first | exact HX.out _ hbD | exact HX.out _ hbna | exact HX.out _ hbnb | exact HX.out _ hbnc)
            (first
              | (go_at_call 21; with_reducible refine (implAt_k rfl (HR1.out _ hbD)).mono ?_; rintro e wa ⟨oa, rfl, isa, hba⟩; have hbna : Below w1.heap.size w1 wa := bStep hbD hba)
              | (go_at_call 21; with_reducible refine (implAt_k HI.out (HR2.out _ hbna)).mono ?_; rintro e wb ⟨ob, rfl, isb, hbb⟩; have hbnb : Below w1.heap.size w1 wb := bStep hbna hbb; have isa2 := SlK.keep isa hbb)
              | (go_at_call 20; with_reducible refine (lwItems_eq (selfI _) isa2 isb).mono ?_; rintro e wc ⟨rfl, hbc⟩; have hbnc : Below w1.heap.size w1 wc := bStep hbnb hbc))
          all_goals
            go_wp2_with fail
            go_roundw
            case rel => exact ⟨k + 1, by omega, by go_num, hbnc⟩
            case measure => simp [intOf]; omega
    · obtain rfl : k = 64 := by omega
      go_wp2_with fail
      go_ret
      exact ⟨rfl, bStep hb1 hb⟩
end Go.Proofs.YtldejkhemkjcgaaGreatDoor
namespace Go.Proofs.YtldejkhemkjcgaaGreatDoor
open Go.RowKit
theorem ofOwnR {f : FuncId} {args : Array Value} {w : World} {L M : List Rw} (e : M = L) (hl : M.length ≤ 2097152) (h : Calls Tryz.prog f args w fun e w' => ∃ o : Value, e = .returned o ∧ OwnR w' w.heap.size o M ∧ Below w.heap.size w w') :
    Calls Tryz.prog f args w fun e w' => ∃ o : Value, e = .returned o ∧ Rs w' o L ∧ Below w.heap.size w w' := by
  subst e
  refine h.mono ?_
  rintro e w' ⟨o, rfl, own, hb⟩
  exact ⟨o, rfl, OwnR.rs own hl, hb⟩
theorem implBothB_k {l l' L : List Rw} (e : bothB l l' = L) {v v' : Value} {w : World} (h : Rs w v l) (h' : Rs w v' l') : Calls Tryz.prog 31 #[v, v'] w fun e w' => ∃ o : Value, e = .returned o ∧ Rs w' o L ∧ Below w.heap.size w w' :=
  ofOwnR e (by have := bothB_len l l'; omega) (implBothB_any v v' l l' w h h')
theorem implLessB_k {l L : List Rw} (e : lessL l = L) {v : Value} {w : World} (h : Rs w v l) : Calls Tryz.prog 34 #[v] w fun e w' => ∃ o : Value, e = .returned o ∧ Rs w' o L ∧ Below w.heap.size w w' :=
  ofOwnR e (by have := less_len l; omega) (implLess2_any v l w h)
end Go.Proofs.YtldejkhemkjcgaaGreatDoor
namespace Go.Proofs.YtldejkhemkjcgaaGreatDoor
open Go.RowKit
theorem sm_rok {l : List Rw} (hl : l.length ≤ 400) (h : ∀ r ∈ l, smR r) : rokB l = true := rok_mk hl fun r hr => (h r hr).1
theorem mv_pair (f : List (Int × Int)) (x y : Int) : moveV f x y = ((moveV f x y).1, (moveV f x y).2) := rfl
theorem mv_ok {f : List (Int × Int)} (hf : fokB f = true) {r : Rw} (hr : rwOkB r = true) : rwOkB (mvR f r) = true := by
  have h1 := move_ok hf (rw_time hr) (mv_pair f r.1.2.1 r.1.2.2)
  simp only [rwOkB, Bool.and_eq_true] at hr ⊢
  exact ⟨⟨hr.1.1, h1⟩, hr.2⟩
theorem mv_rok {f : List (Int × Int)} (hf : fokB f = true) {l : List Rw} (h : rokB l = true) : rokB (moveL f l) = true := by
  refine rok_mk (by simp [moveL]; exact rok_len h) fun r hr => ?_
  obtain ⟨q, hq, rfl⟩ := List.mem_map.1 hr
  exact mv_ok hf (rok_at h hq)
theorem mv_sum {f : List (Int × Int)} (hf : fokB f = true) {l : List Rw} (h : rokB l = true) (ha : absum l ≤ 99999) : bmoveL l f = sumL ltS (moveL f l) := by
  rw [bmove_yes h hf]
  have h1 := mv_rok hf h
  exact sumF_ok (sum_rok (rok_len h1) (fun r hr => rw_parts (rok_at h1 hr)) (by rw [move_abs]; exact ha))
theorem wsum_move (g : Sp → Int) (f : List (Int × Int)) (l : List Rw) : wsum g (moveL f l) = wsum (fun s => g (s.1, moveV f s.2.1 s.2.2)) l := by
  unfold moveL
  induction l with
  | nil => rfl
  | cons r l ih => simp only [List.map_cons, wsum, ih]; rfl
theorem bmove_rok (l : List Rw) (f : List (Int × Int)) : rokB (bmoveL l f) = true := by
  unfold bmoveL; split
  · exact bok_rok (sumF_bok _)
  · exact rok_nil
theorem move_items {f : List (Int × Int)} (hf : fokB f = true) {l : List Rw} (h : rokB l = true) (ha : absum l ≤ 99999) {X Y : Int} (hX : okB X Y = true) (hc : askedB f X Y = true) : itemsL l X Y = itemsL (bmoveL l f) X Y := by
  rw [items_yes h hX, items_yes (bmove_rok l f) hX]
  refine sumL_congr ltT_ord fun th => ?_
  rw [at_tot, at_tot, mv_sum hf h ha, sumL_wsum ltS_ord, wsum_move]
  refine wsum_congr fun r hr => ?_
  have ht := rw_time (rok_at h hr)
  have e : leB r.1.2.1 r.1.2.2 X Y = leB (moveV f r.1.2.1 r.1.2.2).1 (moveV f r.1.2.1 r.1.2.2).2 X Y := by
    by_cases h0 : f.length = 0
    · obtain ⟨e1, e2⟩ := move_empty hf ht (mv_pair f r.1.2.1 r.1.2.2) h0
      rw [e1, e2]
    · unfold askedB at hc
      simp only [Bool.or_eq_true, decide_eq_true_eq, Bool.and_eq_true] at hc
      rcases hc with hc | hc
      · exact absurd hc h0
      · exact move_same hf ht (mv_pair f r.1.2.1 r.1.2.2) hc.2
  simp only [e]
theorem bothB_sum {a b : List Rw} (ha : rokB a = true) (hb : rokB b = true) (hl : a.length + b.length ≤ 400) (hs : absum a + absum b ≤ 99999) : bothB a b = sumL ltS (a ++ b) := by
  rw [bothB_yes ha hb]
  refine sumF_ok (sum_rok (by rw [List.length_append]; exact hl) (fun r hr => ?_) (by rw [absum_append]; exact hs))
  rcases List.mem_append.1 hr with hr | hr
  · exact rw_parts (rok_at ha hr)
  · exact rw_parts (rok_at hb hr)
theorem bothB_rok (a b : List Rw) : rokB (bothB a b) = true := by
  unfold bothB; split
  · exact bok_rok (sumF_bok _)
  · exact rok_nil
theorem put_absR (r : Rw) (l : List Rw) : absum (putL ltS r l) ≤ r.2.natAbs + absum l := by
  induction l with
  | nil => simp [putL, absum]
  | cons x l ih =>
    unfold putL
    by_cases h1 : ltS r.1 x.1 = true
    · rw [if_pos h1]; simp only [absum]; omega
    · rw [if_neg h1]
      by_cases h2 : ltS x.1 r.1 = true
      · rw [if_pos h2]; simp only [absum]; omega
      · rw [if_neg h2]; simp only [absum]; omega
theorem sumA_absR (l : List Rw) : absum (sumA ltS l) ≤ absum l := by
  induction l using snoc_ind with
  | h0 => simp [sumA]
  | h1 l r ih =>
    rw [sumA_snoc, absum_append]
    have := put_absR r (sumA ltS l)
    simp only [absum]
    omega
theorem abs_filterR (l : List Rw) (p : Rw → Bool) : absum (l.filter p) ≤ absum l := by
  induction l with
  | nil => simp
  | cons r l ih =>
    rw [List.filter_cons]
    split
    · simp only [absum]; omega
    · simp only [absum]; omega
theorem sum_absR (l : List Rw) : absum (sumL ltS l) ≤ absum l := Int.le_trans (abs_filterR _ _) (sumA_absR l)
end Go.Proofs.YtldejkhemkjcgaaGreatDoor
