/- How many parts a plan has, parts of parts among them: the exact laws' own count. -/
import Derived.Test.YtpkfgjloepbfpaaDoorAn7
import Derived.LoopTactic
namespace Go.Proofs.YtpkfgjloepbfpaaDoor
open Go.RowKit Go.Shelf

/-- So many parts have the first k parts, parts of parts among them. -/
def RT.upto (t : RT) : Nat → Nat
  | 0 => 0
  | k + 1 => t.upto k + (t.f k).nds
theorem RT.nds_eq (t : RT) : t.nds = t.m + t.upto t.m := by
  rcases t with _ | ⟨k, n, m, f⟩
  · rfl
  have h : ∀ j, ((List.range j).map fun i => (f i).nds).sum = RT.upto (.mk k n m f) j := by
    intro j
    induction j with
    | zero => rfl
    | succ j ih => rw [List.range_succ, List.map_append, List.sum_append, ih]; simp [RT.upto, RT.f]
  show m + _ = m + _
  rw [h]; rfl
theorem RT.upto_le (t : RT) {j k : Nat} (h : j ≤ k) : t.upto j ≤ t.upto k := by
  induction k with
  | zero => obtain rfl : j = 0 := by omega
            exact Nat.le_refl _
  | succ k ih =>
    rcases Nat.lt_or_ge k j with h1 | h1
    · obtain rfl : j = k + 1 := by omega
      exact Nat.le_refl _
    · have := ih h1
      show _ ≤ t.upto k + _
      omega
/-- What is left of a number when a plan's parts are counted off. -/
def szN (left : Int) (n : Nat) : Int := if left < n then -1 else left - n
abbrev LeftPost (left : Int) (n : Nat) (w : World) (e : Ending) (w' : World) : Prop := e = .returned (.int .i64 (szN left n)) ∧ Below w.heap.size w w'
set_option maxRecDepth 100000 in
set_option maxHeartbeats 4000000 in
theorem szPlanS_rstep {t : RT} {B : Nat} {s : Value} {w : World} {left : Int} (h0 : 0 ≤ left) (h1 : left ≤ 1048576) (hs : RdS B w t s)
    (hrec : ∀ i, i < t.m → ∀ (W : World) (u : Value) (l : Int), 0 ≤ l → l ≤ 1048576 → RdS B W (t.f i) u → Calls Tryd.prog 8 #[pl (t.f i).k (t.f i).n u, .int .i64 l] W (LeftPost l (t.f i).nds W)) :
    Calls Tryd.prog 16 #[s, .int .i64 left] w (LeftPost left t.nds w) := by
  have HR := (show Hid _ from hrec)
  have HS := (show Hid (RdS B w t s) from hs)
  obtain ⟨a, c, rfl, hm1, hm2⟩ := hs.sl
  have htl : t.m ≤ 9223372036854775807 := by unfold maxLen at hm2; omega
  have hnd := t.nds_eq
  have HU := (show Hid _ from fun (j : Nat) (h : j ≤ t.m) => t.upto_le h)
  clear hs hrec hm1 hm2
  by_cases hb : left < (t.m : Int)
  · have hz : szN left t.nds = -1 := by unfold szN; rw [if_pos (by omega)]
    have e1 : left - (t.m : Int) < 0 := by omega
    have e2 : -9223372036854775808 ≤ left - (t.m : Int) := by omega
    clear hnd HU
    go_enter Tryd.func16, Tryd.ntmps16
    go_wp2_with fail
    go_ret
    exact ⟨by rw [hz] <;> rfl, Below.refl _ _⟩
  · have e1 : ¬ (left - (t.m : Int) < 0) := by omega
    have HND := (show Hid (t.nds = t.m + t.upto t.m) from hnd)
    clear hnd
    go_enter Tryd.func16, Tryd.ntmps16
    go_wp2_with fail
    go_loopw [1, 5] (fun l i wr => ∃ k : Nat, i = .int .i64 k ∧ k ≤ t.m ∧ l = .int .i64 (left - t.m - t.upto k) ∧ 0 ≤ left - t.m - t.upto k ∧ Below w.heap.size w wr) (fun _ i _ => t.m - (intOf i).toNat)
    case atStart => exact ⟨0, rfl, Nat.zero_le _, by simp [RT.upto], by simp [RT.upto]; omega, Below.refl _ _⟩
    case round =>
      obtain ⟨k, rfl, hkl, rfl, hl0, hb2⟩ := hrel
      obtain ⟨l, hl⟩ : ∃ l : Int, left - t.m - t.upto k = l := ⟨_, rfl⟩
      have HL := (show Hid (left - t.m - t.upto k = l) from hl)
      rw [hl] at hl0 ⊢
      clear hl
      have hl1 : l ≤ 1048576 := by have := HL.out; omega
      by_cases hlt : k < t.m
      · have ik : ((k : Int) < (t.m : Int)) := by omega
        obtain ⟨g, off, b2, d2, rfl, hgl, c0, c1, c2, hkid⟩ := (HS.out.keep hb2).at hlt
        have HK := (show Hid _ from HR.out k hlt wr _ l hl0 hl1 hkid)
        have HU1 := HU.out (k + 1) hlt
        have HUk : Hid (t.upto (k + 1) = t.upto k + (t.f k).nds) := rfl
        have HU2 := (show Hid (t.upto (k + 1) ≤ t.upto t.m) from HU1)
        clear hkid HU1
        go_wp2_with fail
        refine Calls.mono HK.out ?_
        rintro e w7 ⟨rfl, hb7⟩
        have hbf := bStep hb2 hb7
        clear c0 c1 c2 HK
        by_cases hq : l < ((t.f k).nds : Int)
        · have hz : szN l (t.f k).nds = -1 := by unfold szN; rw [if_pos hq]
          have hz2 : szN left t.nds = -1 := by
            have h3 := HU2.out
            have h4 := HUk.out
            have h5 := HL.out
            have h6 := HND.out
            unfold szN; rw [if_pos (by omega)]
          rw [hz]
          go_wp2_with fail
          go_ret
          exact ⟨by rw [hz2] <;> rfl, hbf⟩
        · have hz : szN l (t.f k).nds = l - (t.f k).nds := by unfold szN; rw [if_neg hq]
          obtain ⟨l2, hl2⟩ : ∃ l2 : Int, l - (t.f k).nds = l2 := ⟨_, rfl⟩
          have hl3 : ¬ l2 < 0 := by omega
          have HL2 : Hid (left - t.m - t.upto (k + 1) = l2) := by
            show left - t.m - t.upto (k + 1) = l2
            have h4 := HUk.out
            have h5 := HL.out
            omega
          rw [hz, hl2]
          clear hz hl2 hq
          go_wp2_with fail
          go_roundw
          case rel => exact ⟨k + 1, by go_num, by omega, by rw [HL2.out], by rw [HL2.out]; omega, hbf⟩
          case measure => simp [intOf]; omega
      · have hke : k = t.m := by omega
        have ik : ¬ ((k : Int) < (t.m : Int)) := by omega
        have hz : szN left t.nds = l := by
          have h5 := HL.out
          have h6 := HND.out
          subst hke
          unfold szN; rw [if_neg (by omega)]; omega
        go_wp2_with fail
        go_ret
        exact ⟨by rw [hz] <;> rfl, hb2⟩
set_option maxRecDepth 100000 in
set_option maxHeartbeats 4000000 in
theorem szPlan_rone {t : RT} {B : Nat} {s : Value} {w : World} {left : Int} (_h0 : 0 ≤ left) (_h1 : left ≤ 1048576) (hs : RdS B w t s)
    (hrec : ∀ (W : World), RdS B W t s → Calls Tryd.prog 16 #[s, .int .i64 left] W (LeftPost left t.nds W)) :
    Calls Tryd.prog 8 #[pl t.k t.n s, .int .i64 left] w (LeftPost left t.nds w) := by
  obtain ⟨nd, hnd⟩ : ∃ nd, t.nds = nd := ⟨_, rfl⟩
  rw [hnd] at hrec ⊢
  have bA : Bk (w.alloc (.cells #[.int .i64 t.k, .int .i64 t.n, s] 31)) w.heap.size #[.int .i64 t.k, .int .i64 t.n, s] 31 := Bk.new _ _ rfl
  have hb0 : Below w.heap.size w (w.alloc (.cells #[.int .i64 t.k, .int .i64 t.n, s] 31)) := bAlloc (Below.refl _ _) _
  have HC := (show Hid _ from hrec _ (hs.keep hb0))
  obtain ⟨a, c, rfl, _, _⟩ := hs.sl
  obtain ⟨x0, x1, x2⟩ := bA.three'
  clear hs hrec bA hnd
  go_enter Tryd.func8, Tryd.ntmps8
  go_wp2_with fail
  refine Calls.mono HC.out ?_
  rintro e w1 ⟨rfl, hb1⟩
  have hbf := bStep hb0 hb1
  by_cases hq : left < (nd : Int)
  · have hz : szN left nd = -1 := by unfold szN; rw [if_pos hq]
    have HZ := (show Hid (szN left nd = -1) from hz)
    rw [hz]
    clear hz
    go_wp2_with fail
    go_ret
    exact ⟨by rw [HZ.out] <;> rfl, hbf⟩
  · have hz : szN left nd = left - nd := by unfold szN; rw [if_neg hq]
    obtain ⟨l2, hl2⟩ : ∃ l2 : Int, left - nd = l2 := ⟨_, rfl⟩
    have hl3 : ¬ l2 < 0 := by omega
    have HZ := (show Hid (szN left nd = l2) from hz.trans hl2)
    rw [hz, hl2]
    clear hz hl2 hq
    go_wp2_with fail
    go_ret
    exact ⟨by rw [HZ.out] <;> rfl, hbf⟩
theorem szPlanS_rt : ∀ (t : RT) {B : Nat} {s : Value} {w : World} {left : Int}, 0 ≤ left → left ≤ 1048576 → RdS B w t s → Calls Tryd.prog 16 #[s, .int .i64 left] w (LeftPost left t.nds w)
  | .nil, _, _, _, _, _, _, hs => hs.elim
  | .mk _ _ _ f, _, _, _, _, h0, h1, hs => szPlanS_rstep h0 h1 hs fun i _ _ _ _ h2 h3 h => szPlan_rone (t := f i) h2 h3 h fun _ h => szPlanS_rt (f i) h2 h3 h
theorem szPlan_rt (t : RT) {B : Nat} {s : Value} {w : World} {left : Int} (h0 : 0 ≤ left) (h1 : left ≤ 1048576) (hs : RdS B w t s) : Calls Tryd.prog 8 #[pl t.k t.n s, .int .i64 left] w (LeftPost left t.nds w) :=
  szPlan_rone h0 h1 hs fun _ h => szPlanS_rt t h0 h1 h
end Go.Proofs.YtpkfgjloepbfpaaDoor
