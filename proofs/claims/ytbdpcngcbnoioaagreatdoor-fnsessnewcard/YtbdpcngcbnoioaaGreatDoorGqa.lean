import Derived.Test.YtbdpcngcbnoioaaGreatDoorGpm
import Derived.Test.YtbdpcngcbnoioaaGreatDoorGb0
import Derived.Test.YtbdpcngcbnoioaaGreatDoorGlk
import Derived.Test.YtbdpcngcbnoioaaGreatDoorOpl
import Derived.Test.YtbdpcngcbnoioaaGreatDoorGs2
import Derived.Test.YtbdpcngcbnoioaaGreatDoorGd3
import Derived.Deep.RegionHeld3
namespace Go.Proofs.YtbdpcngcbnoioaaGreatDoor
def covB (f : List (Int × Int)) (x y : Int) : Bool := fokB f && anyB f x y
theorem cov_ok {f : List (Int × Int)} (h : fokB f = true) (x y : Int) : covB f x y = anyB f x y := by simp [covB, h]
def aheadL (f : List (Int × Int)) (l : List Rw) : List Rw := l.filter fun r => !covB f r.1.2.1 r.1.2.2
theorem ahead_len (f : List (Int × Int)) (l : List Rw) : (aheadL f l).length ≤ l.length := List.length_filter_le _ _
theorem ahead_snoc {f : List (Int × Int)} {l : List Rw} {k : Nat} {r : Rw} (h : l[k]? = some r) : aheadL f (l.take (k + 1)) = aheadL f (l.take k) ++ (if covB f r.1.2.1 r.1.2.2 then [] else [r]) := by
  unfold aheadL
  rw [take_snoc0 h, List.filter_append]
  cases hc : covB f r.1.2.1 r.1.2.2 <;> simp [hc]
where
  take_snoc0 {α : Type} {l : List α} {k : Nat} {x : α} (h : l[k]? = some x) : l.take (k + 1) = l.take k ++ [x] := by
    rw [List.take_add_one, h]; rfl
structure SS where
  t : PT
  K : List (List Rw)
  f : List (Int × Int)
  d : List Rw
def allS (s : SS) : Option (List Rw) := if fokB s.f then (flowR s.t s.K).bind fun r => if aheadL s.f r = s.d then some r else none else none
theorem allS_some {s : SS} {r : List Rw} : allS s = some r ↔ fokB s.f = true ∧ flowR s.t s.K = some r ∧ aheadL s.f r = s.d := by
  unfold allS
  cases hf : fokB s.f
  · simp
  · simp only [if_true, true_and, Option.bind_eq_some_iff]
    constructor
    · rintro ⟨q, h1, h2⟩
      split at h2
      · cases h2; exact ⟨h1, by assumption⟩
      · cases h2
    · rintro ⟨h1, h2⟩
      exact ⟨r, h1, by rw [if_pos h2]⟩
def atS (s : SS) (x y : Int) : Option (List It) := if (allS s).isSome && okB x y && !covB s.f x y then some (itemsL s.d x y) else none
theorem op_nil (k n : Int) : opR k n [] [] = [] := by
  unfold opR
  split
  · rfl
  split
  · rfl
  split
  · rfl
  split
  · rfl
  · have : fsumR n [] = [] := by
      unfold fsumR; rfl
    rw [this]; rfl
theorem planR_nil : ∀ t : PT, planR [] [] t = some []
  | .n0 k n => by
    show fitO (if n = 0 then [] else []) = _
    split <;> rfl
  | .n1 k n x => by
    simp only [planR, planR_nil x, Option.bind_some, op_nil]; rfl
  | .n2 k n x y => by
    simp only [planR, planR_nil x, planR_nil y, Option.bind_some, op_nil]; rfl
theorem flowR_nil {t : PT} (h : pokB t 4 = true) : flowR t [[], []] = some [] := by
  rw [flowR_two h bok_nil bok_nil]; exact planR_nil t
theorem newS_all {t : PT} (h : pokB t 4 = true) : allS ⟨t, [[], []], [(0, 0)], []⟩ = some [] := allS_some.2 ⟨show fokB [(0, 0)] = true by decide, flowR_nil h, rfl⟩
theorem first_cov {x y : Int} (h : okB x y = true) : covB [(0, 0)] x y = true := by
  rw [cov_ok (by decide), any_iff]
  refine ⟨(0, 0), by simp, leB_iff.2 ⟨by decide, h, ?_⟩⟩
  have := h
  simp [okB] at this
  simp; omega
end Go.Proofs.YtbdpcngcbnoioaaGreatDoor
namespace Go.Proofs.YtbdpcngcbnoioaaGreatDoor
open Go.RowKit Go.Shelf
abbrev sv (k n : Int) (sp si sf sd : Value) : Value := .agg #[.int .i64 k, .int .i64 n, sp, si, sf, sd]
abbrev sc (k n : Int) (sp si sf sd : Value) : Array Value := #[.int .i64 k, .int .i64 n, sp, si, sf, sd]
abbrev nilV : Value := .slice none 0 0
structure Ses (w : World) (sp si sf sd : Value) (s : SS) : Prop where
  kd : KdS 0 w s.t sp
  ly : LyR w si s.K
  ts : Ts w sf s.f
  rs : Rs w sd s.d
theorem Ses.keep {w w1 : World} {sp si sf sd : Value} {s : SS} (h : Ses w sp si sf sd s) (hb : Below w.heap.size w w1) : Ses w1 sp si sf sd s := ⟨h.kd.keep hb, h.ly.keep hb, h.ts.keep hb, h.rs.keep hb⟩
theorem Ses.sl {w : World} {sp si sf sd : Value} {s : SS} (h : Ses w sp si sf sd s) : ∃ a0 c0 a1 c1 a2 c2 a3 c3, sp = .slice a0 s.t.len c0 ∧ si = .slice a1 s.K.length c1 ∧ sf = .slice a2 s.f.length c2 ∧ sd = .slice a3 s.d.length c3 := by
  obtain ⟨a0, c0, e0⟩ := h.kd.sl
  obtain ⟨a1, c1, e1⟩ := h.ly.sl
  obtain ⟨a2, c2, e2, -⟩ := h.ts
  obtain ⟨a3, c3, e3, -⟩ := Rs.open h.rs
  exact ⟨a0, c0, a1, c1, a2, c2, a3, c3, e0, e1, e2, e3⟩
theorem Bk.six {w : World} {k : Nat} {x0 x1 x2 x3 x4 x5 : Value} {t : TypeId} (h : Bk w k #[x0, x1, x2, x3, x4, x5] t) :
    w.cell? ⟨k, 0, none⟩ = some x0 ∧ w.cell? ⟨k, 1, none⟩ = some x1 ∧ w.cell? ⟨k, 2, none⟩ = some x2 ∧ w.cell? ⟨k, 3, none⟩ = some x3 ∧ w.cell? ⟨k, 4, none⟩ = some x4 ∧ w.cell? ⟨k, 5, none⟩ = some x5 := by
  unfold Bk at h; simp [World.cell?, h]
end Go.Proofs.YtbdpcngcbnoioaaGreatDoor
namespace Go.Proofs.YtbdpcngcbnoioaaGreatDoor
open Go.RowKit Go.Shelf
theorem implCov_eq {f : List (Int × Int)} {x y : Int} {r : Bool} (h : covB f x y = r) {v : Value} {w : World} (ht : Ts w v f) : Calls Tryz.prog 29 #[v, tv x y] w fun e w' => e = .returned (.bool r) ∧ Below w.heap.size w w' := implCovers_eq h ht
set_option maxRecDepth 100000 in
set_option maxHeartbeats 8000000 in
theorem aheadOf_any (fv lv : Value) (f : List (Int × Int)) (l : List Rw) (w : World) (hf : Ts w fv f) (hl : Rs w lv l) (hll : l.length ≤ 1000000) :
    Calls Tryz.prog 83 #[fv, lv] w fun e w' => ∃ o : Value, e = .returned o ∧ OwnR w' w.heap.size o (aheadL f l) ∧ Below w.heap.size w w' := by
  have HT := (show Hid (Ts w fv f) from hf)
  obtain ⟨af, capf, rfl, -, -, -, -⟩ := hf
  obtain ⟨a, cap, rfl, hc, hm, hn, hcells⟩ := Rs.open hl
  unfold maxLen at hm
  have HC := (show Hid _ from hcells)
  have o0 : OwnR w w.heap.size (.slice none 0 0) [] := ownK_nil _ _ _ _ _
  clear hcells hl
  go_enter Tryz.func83, Tryz.ntmps83
  go_wp2_with fail
  go_loopw [5, 10] (fun o i wr => ∃ k : Nat, k ≤ l.length ∧ i = .int .i64 k ∧ OwnR wr w.heap.size o (aheadL f (l.take k)) ∧ Below w.heap.size w wr) (fun _ i _ => l.length - (intOf i).toNat)
  case atStart => exact ⟨0, by omega, rfl, o0, Below.refl _ _⟩
  case round =>
    clear o0
    obtain ⟨k, hkl, rfl, hown, hb⟩ := hrel
    have HO : Hid (OwnR wr w.heap.size u5 (aheadL f (l.take k))) := hown
    clear hown
    by_cases hlt : k < l.length
    · obtain ⟨g, off, K, V, A, B, D, rfl, hg, hr, c0, c1, c2, c3, c4⟩ := HC.out k hlt
      have HZ := (show Hid _ from ahead_snoc (f := f) hr)
      have d0 := cell_below hb c0
      have d1 := cell_below hb c1
      have d2 := cell_below hb c2
      have d3 := cell_below hb c3
      have d4 := cell_below hb c4
      have hL : (aheadL f (l.take k)).length ≤ 2000000 := by have := ahead_len f (l.take k); simp at this; omega
      have ik : ((k : Int) < (l.length : Int)) := by omega
      have bt0 := Bk.new (w := wr) #[.int .i64 K, .int .i64 V, .int .i64 A, .int .i64 B, .int .i64 D] 55 rfl
      have hbt : Below wr.heap.size wr (wr.alloc (.cells #[.int .i64 K, .int .i64 V, .int .i64 A, .int .i64 B, .int .i64 D] 55)) := bAlloc (Below.refl _ _) _
      have hb' := bStep hb hbt
      have O1 : Hid (OwnR (wr.alloc (.cells #[.int .i64 K, .int .i64 V, .int .i64 A, .int .i64 B, .int .i64 D] 55)) w.heap.size u5 (aheadL f (l.take k))) := HO.out.alloc _
      have T1 := HT.out.keep hb'
      obtain ⟨x0, x1, x2, x3, x4⟩ := bt0.five
      have hwr := hb.size
      clear c0 c1 c2 c3 c4 hr HO hb hbt
      cases hcv : covB f A B
      · rw [hcv] at HZ
        go_wp2_with fail
        generalize wr.heap.size = tb at *
        generalize World.alloc _ _ = wt at *
        refine (implCov_eq hcv T1).mono ?_
        rintro e w3 ⟨rfl, hb3⟩
        have bt3 := bt0.keep hb3
        have hb4 := bStep hb' hb3
        have O3 : OwnR w3 w.heap.size u5 (aheadL f (l.take k)) := own_keep O1.out hb3
        obtain ⟨y0, y1, y2, y3, y4⟩ := bt3.five
        have hs5 := hb4.size
        clear d0 d1 d2 d3 d4 O1 bt0 T1 hb' hcv x0 x1 x2 x3 x4 hb3
        generalize aheadL f (l.take k) = L at *
        go_wp2_with (at_builtin; refine appR _ rfl _ _ rfl w.heap.size _ _ rfl (O3.alloc _) _ _ _ _ _ _ rfl (Bk.new _ _ rfl) (by omega) (by simp; omega) ?_; intro g7 cap7 w7 own7 hgrow hlg)
        have hb7 : Below w.heap.size w w7 := Below.grew (bAlloc hb4 _) hgrow (by simp; omega) (ownK_base O3)
        go_roundw
        case rel =>
          refine ⟨k + 1, by omega, by go_num, ?_, hb7⟩
          rw [HZ.out]; exact own7
        case measure => simp [intOf]; omega
      · rw [hcv] at HZ
        go_wp2_with fail
        generalize World.alloc _ _ = wt at *
        refine (implCov_eq hcv T1).mono ?_
        rintro e w3 ⟨rfl, hb3⟩
        have hb4 := bStep hb' hb3
        have O3 : OwnR w3 w.heap.size u5 (aheadL f (l.take k)) := own_keep O1.out hb3
        clear d0 d1 d2 d3 d4 O1 bt0 T1 hb' hcv x0 x1 x2 x3 x4 hb3
        go_wp2_with fail
        go_roundw
        case rel =>
          refine ⟨k + 1, by omega, by go_num, ?_, hb4⟩
          rw [HZ.out]; simpa using O3
        case measure => simp [intOf]; omega
    · obtain rfl : k = l.length := by omega
      have ik : ¬ ((l.length : Int) < (l.length : Int)) := by omega
      rw [List.take_length] at HO
      go_wp2_with fail
      go_ret
      exact ⟨_, rfl, HO.out, hb⟩
end Go.Proofs.YtbdpcngcbnoioaaGreatDoor
namespace Go.Proofs.YtbdpcngcbnoioaaGreatDoor
open Go.RowKit
attribute [local go_sem ↓] Go.wp_at_zero Go.wp_at_succ
set_option maxRecDepth 100000 in
set_option maxHeartbeats 16000000 in
theorem equalR_any (v u : Value) (l m : List Rw) (w : World) (h : Rs w v l) (h' : Rs w u m) :
    Calls Tryz.prog 152 #[v, u] w fun e w' => e = .returned (.bool (decide (l = m))) ∧ Below w.heap.size w w' := by
  obtain ⟨a, c, rfl, hc, hm, hn, hcell⟩ := Rs.open h
  obtain ⟨a', c', rfl, hc', hm', hn', hcell'⟩ := Rs.open h'
  unfold maxLen at hm hm'
  have HC := (show Hid _ from hcell)
  have HC' := (show Hid _ from hcell')
  clear hcell hcell' h h'
  by_cases hlen : l.length = m.length
  · have HLN : Hid (l.length = m.length) := hlen
    have hlb : ((l.length : Int) == (m.length : Int)) = true := by simp [hlen]
    have hlc : (l.length == m.length) = true := by simp [hlen]
    have hle : l.length ≤ m.length := by omega
    clear hlen
    go_enter Tryz.func152, Tryz.ntmps152
    go_wp2_with fail
    go_loopw [13] (fun i wr => ∃ k : Nat, k ≤ l.length ∧ i = .int .i64 k ∧ l.take k = m.take k ∧ Below w.heap.size w wr) (fun i _ => l.length - (intOf i).toNat)
    case atStart => exact ⟨0, by omega, rfl, by simp, Below.refl _ _⟩
    case round =>
      obtain ⟨k, hkl, rfl, htk, hb⟩ := hrel
      have HTK : Hid (l.take k = m.take k) := htk
      clear htk
      by_cases hlt : k < l.length
      · obtain ⟨g, off, K, V, A, B, D, rfl, hg, hr, c0, c1, c2, c3, c4⟩ := HC.out k hlt
        obtain ⟨g2, off2, K2, V2, A2, B2, D2, rfl, hg2, hr2, p0, p1, p2, p3, p4⟩ := HC'.out k (by omega)
        have ik : ((k : Int) < (l.length : Int)) := by omega
        have ik2 : ((k : Int) < (m.length : Int)) := by omega
        have d0 := cell_below hb c0
        have f0 := cell_below hb p0
        have d1 := cell_below hb c1
        have f1 := cell_below hb p1
        have d2 := cell_below hb c2
        have f2 := cell_below hb p2
        have d3 := cell_below hb c3
        have f3 := cell_below hb p3
        have d4 := cell_below hb c4
        have f4 := cell_below hb p4
        clear c0 c1 c2 c3 c4 p0 p1 p2 p3 p4
        by_cases hK : K = K2
        case neg =>
          have HNE : Hid (decide (l = m) = false) := decide_eq_false fun e => by rw [e, hr2] at hr; simp at hr; omega
          clear hr hr2
          go_wp2_with fail
          go_quiet (fail)
          have hbq : Below w.heap.size w (wr.drewN nq) := bDrewN hb _
          go_wp2_with fail
          go_ret
          exact ⟨by have h := HNE.out; simp_all, hbq⟩
        by_cases hV : V = V2
        case neg =>
          have HNE : Hid (decide (l = m) = false) := decide_eq_false fun e => by rw [e, hr2] at hr; simp at hr; omega
          clear hr hr2
          go_wp2_with fail
          go_quiet (fail)
          have hbq : Below w.heap.size w (wr.drewN nq) := bDrewN hb _
          go_wp2_with fail
          go_ret
          exact ⟨by have h := HNE.out; simp_all, hbq⟩
        by_cases hA : A = A2
        case neg =>
          have HNE : Hid (decide (l = m) = false) := decide_eq_false fun e => by rw [e, hr2] at hr; simp at hr; omega
          clear hr hr2
          go_wp2_with fail
          go_quiet (fail)
          have hbq : Below w.heap.size w (wr.drewN nq) := bDrewN hb _
          go_wp2_with fail
          go_ret
          exact ⟨by have h := HNE.out; simp_all, hbq⟩
        by_cases hB : B = B2
        case neg =>
          have HNE : Hid (decide (l = m) = false) := decide_eq_false fun e => by rw [e, hr2] at hr; simp at hr; omega
          clear hr hr2
          go_wp2_with fail
          go_quiet (fail)
          have hbq : Below w.heap.size w (wr.drewN nq) := bDrewN hb _
          go_wp2_with fail
          go_ret
          exact ⟨by have h := HNE.out; simp_all, hbq⟩
        by_cases hD : D = D2
        case neg =>
          have HNE : Hid (decide (l = m) = false) := decide_eq_false fun e => by rw [e, hr2] at hr; simp at hr; omega
          clear hr hr2
          go_wp2_with fail
          go_quiet (fail)
          have hbq : Below w.heap.size w (wr.drewN nq) := bDrewN hb _
          go_wp2_with fail
          go_ret
          exact ⟨by have h := HNE.out; simp_all, hbq⟩
        subst hK hV hA hB hD
        have HTN : Hid (l.take (k + 1) = m.take (k + 1)) := by show _ = _; rw [List.take_add_one, List.take_add_one, hr, hr2, HTK.out]
        clear hr hr2
        go_wp2_with fail
        go_quiet (fail)
        have hbq : Below w.heap.size w (wr.drewN nq) := bDrewN hb _
        go_wp2_with fail
        go_roundw
        case rel => exact ⟨k + 1, by omega, by go_num, HTN.out, hbq⟩
        case measure => simp [intOf]; omega
      · have HEQ : Hid (decide (l = m) = true) := decide_eq_true (by have h1 := HTK.out; have h2 := HLN.out; rw [List.take_of_length_le (by omega), List.take_of_length_le (by omega)] at h1; exact h1)
        have ik : ¬ ((k : Int) < (l.length : Int)) := by omega
        go_wp2_with fail
        go_ret
        exact ⟨by have h := HEQ.out; simp_all, hb⟩
  · have HNE : Hid (decide (l = m) = false) := decide_eq_false fun e => hlen (by rw [e])
    have hlb : ((l.length : Int) == (m.length : Int)) = false := beq_eq_false_iff_ne.2 (by omega)
    have hlc : (l.length == m.length) = false := beq_eq_false_iff_ne.2 hlen
    go_enter Tryz.func152, Tryz.ntmps152
    go_wp2_with fail
    go_ret
    exact ⟨by have h := HNE.out; simp_all, Below.refl _ _⟩
theorem equalR_eq {l m : List Rw} {r : Bool} (h : decide (l = m) = r) {v u : Value} {w : World} (h1 : Rs w v l) (h2 : Rs w u m) : Calls Tryz.prog 152 #[v, u] w fun e w' => e = .returned (.bool r) ∧ Below w.heap.size w w' := by
  rw [← h]; exact equalR_any v u l m w h1 h2
end Go.Proofs.YtbdpcngcbnoioaaGreatDoor
