/- Whether a spine may be asked at times; SpineAt and SpineAll of the program: the contracts. -/
import Derived.Test.YtjkojbafifbdgaaGreatZs1
import Derived.Test.YtjkojbafifbdgaaGreatZl0
import Derived.Test.YtjkojbafifbdgaaGreatGs7
namespace Go.Proofs.YtjkojbafifbdgaaGreat
open Go.RowKit Go.Shelf

theorem asked_nil {F : List (Int × Int)} {x y : Int} (h : F.length = 0) : askedB F x y = true := by simp [askedB, h]
theorem asked_cov {F : List (Int × Int)} {x y : Int} (h : F.length ≠ 0) : askedB F x y = (fokB F && anyB F x y) := by simp [askedB, h]
set_option maxHeartbeats 2000000 in
theorem mayBeAsked_any (v : Value) (F : List (Int × Int)) (x y : Int) (w : World) (h : Ts w v F) :
    Calls Tryz.prog 86 #[v, tv x y] w fun e w' => e = .returned (.bool (askedB F x y)) ∧ Below w.heap.size w w' := by
  have HT := (show Hid (Ts w v F) from h)
  obtain ⟨a, cap, rfl, -⟩ := h
  have bt0 : Bk (w.alloc (.cells #[.int .i64 x, .int .i64 y] 71)) w.heap.size #[.int .i64 x, .int .i64 y] 71 := Bk.new _ _ rfl
  have hb0 : Below w.heap.size w (w.alloc (.cells #[.int .i64 x, .int .i64 y] 71)) := bAlloc (Below.refl _ _) _
  obtain ⟨t0, t1, _, _⟩ := bt0.two
  by_cases h0 : F.length = 0
  · have HN : Hid (askedB F x y = true) := asked_nil h0
    have e0 : ((F.length : Int) == 0) = true := by simp [h0]
    go_enter Tryz.func86, Tryz.ntmps86
    go_wp2_with fail
    go_ret
    exact ⟨by rw [HN.out]; rfl, hb0⟩
  · have HN : Hid (askedB F x y = (fokB F && anyB F x y)) := asked_cov h0
    have e0 : ((F.length : Int) == 0) = false := by simpa using h0
    go_enter Tryz.func86, Tryz.ntmps86
    go_wp2_with fail
    refine (implCovers_any _ F x y _ (HT.out.keep hb0)).mono ?_
    rintro e w1 ⟨rfl, hb1⟩
    go_wp2_with fail
    go_ret
    exact ⟨by rw [HN.out]; rfl, bStep hb0 hb1⟩
theorem asked_step {F T : List (Int × Int)} {k : Nat} : (List.range (k + 1)).all (fun i => askedB F (tA T i) (tB T i)) = ((List.range k).all (fun i => askedB F (tA T i) (tB T i)) && askedB F (tA T k) (tB T k)) := by
  rw [List.range_succ, List.all_append]; simp
def askedT (F T : List (Int × Int)) : Bool := (List.range T.length).all fun i => askedB F (tA T i) (tB T i)
theorem askedT_no {F T : List (Int × Int)} {k : Nat} (hk : k < T.length) (h : askedB F (tA T k) (tB T k) = false) : askedT F T = false := by
  unfold askedT
  rw [Bool.eq_false_iff]
  intro e
  rw [List.all_eq_true] at e
  rw [e k (List.mem_range.2 hk)] at h; cases h
set_option maxRecDepth 100000 in
set_option maxHeartbeats 4000000 in
theorem allMay_any (v u : Value) (F T : List (Int × Int)) (w : World) (h : Ts w v F) (h' : Ts w u T) :
    Calls Tryz.prog 52 #[v, u] w fun e w' => e = .returned (.bool (askedT F T)) ∧ Below w.heap.size w w' := by
  have HT := (show Hid (Ts w v F) from h)
  obtain ⟨aF, cF, rfl, -⟩ := h
  obtain ⟨a, cap, rfl, hc, hm, hn, hcells⟩ := h'
  unfold maxLen at hm
  have HC := (show Hid _ from hcells)
  clear hcells
  go_enter Tryz.func52, Tryz.ntmps52
  go_wp2_with fail
  go_loopw [9] (fun i wr => ∃ k : Nat, k ≤ T.length ∧ i = .int .i64 k ∧ (List.range k).all (fun i => askedB F (tA T i) (tB T i)) = true ∧ Below w.heap.size w wr) (fun i _ => T.length - (intOf i).toNat)
  case atStart => exact ⟨0, by omega, rfl, rfl, Below.refl _ _⟩
  case round =>
    obtain ⟨k, hk, rfl, hall, hb⟩ := hrel
    have HA := (show Hid ((List.range k).all (fun i => askedB F (tA T i) (tB T i)) = true) from hall)
    clear hall
    by_cases hlt : k < T.length
    · obtain ⟨g, off, rfl, hg, c0, c1⟩ := HC.out k hlt
      have d0 := cell_below hb c0
      have d1 := cell_below hb c1
      have ik : (k : Int) < (T.length : Int) := by omega
      have hba : Below wr.heap.size wr (wr.alloc (.cells #[.int .i64 (tA T k), .int .i64 (tB T k)] 71)) := bAlloc (Below.refl _ _) _
      have bx : Bk (wr.alloc (.cells #[.int .i64 (tA T k), .int .i64 (tB T k)] 71)) wr.heap.size #[.int .i64 (tA T k), .int .i64 (tB T k)] 71 := Bk.new _ _ rfl
      obtain ⟨x0, x1, _, _⟩ := bx.two
      have TF := HT.out.keep (bStep hb hba)
      clear c0 c1
      cases hp : askedB F (tA T k) (tB T k)
      · have HN : Hid (askedT F T = false) := askedT_no hlt hp
        generalize tA T k = A at *
        generalize tB T k = B at *
        go_wp2_with fail
        refine (mayBeAsked_any _ F A B _ TF).mono ?_
        rw [hp]
        rintro e w2 ⟨rfl, hb2⟩
        go_wp2_with fail
        go_ret
        exact ⟨by rw [HN.out]; rfl, bStep (bStep hb hba) hb2⟩
      · have HN : Hid ((List.range (k + 1)).all (fun i => askedB F (tA T i) (tB T i)) = true) := by show _ = _; rw [asked_step, HA.out, hp]; rfl
        generalize tA T k = A at *
        generalize tB T k = B at *
        go_wp2_with fail
        refine (mayBeAsked_any _ F A B _ TF).mono ?_
        rw [hp]
        rintro e w2 ⟨rfl, hb2⟩
        have hb3 := bStep (bStep hb hba) hb2
        go_wp2_with fail
        go_roundw
        case rel => exact ⟨k + 1, by omega, by go_num, HN.out, hb3⟩
        case measure => simp [intOf]; omega
    · obtain rfl : k = T.length := by omega
      have HN : Hid (askedT F T = true) := HA.out
      go_wp2_with fail
      go_ret
      exact ⟨by rw [HN.out]; rfl, hb⟩
theorem flat_len_le (L : List (List Rw)) (k : Nat) : (L.take k).flatten.length ≤ L.flatten.length := by
  conv => rhs; rw [← List.take_append_drop k L]
  rw [List.flatten_append, List.length_append]; omega
theorem gl_len_le {L : List (List Rw)} {k : Nat} (h : k < L.length) : (gl L k).length ≤ L.flatten.length := by
  have h1 := flat_take h
  have h2 := flat_len_le L (k + 1)
  omega
theorem flat_snoc {L : List (List Rw)} {k : Nat} (h : k < L.length) : (L.take (k + 1)).flatten = (L.take k).flatten ++ gl L k := by
  rw [take_snoc (gl_at h), List.flatten_append]; simp
set_option maxRecDepth 100000 in
set_option maxHeartbeats 4000000 in
theorem concatL_any (lv : Value) (L : List (List Rw)) (w : World) (h : Ly w lv L) (hl : L.flatten.length ≤ 2000000) :
    Calls Tryz.prog 48 #[lv] w fun e w' => ∃ o : Value, e = .returned o ∧ OwnR w' w.heap.size o L.flatten ∧ Below w.heap.size w w' := by
  obtain ⟨aL, cL, rfl, hc, hm, hn, hcells⟩ := Ly.open h
  unfold maxLen at hm
  have HC := (show Hid _ from hcells)
  have HLE : Hid (∀ k, (L.take k).flatten.length ≤ L.flatten.length) := flat_len_le L
  clear hcells h
  go_enter Tryz.func48, Tryz.ntmps48
  go_wp2_with fail
  go_loopw [3, 11] (fun n b wr => ∃ k : Nat, k ≤ L.length ∧ b = .int .i64 k ∧ n = .int .i64 ((L.take k).flatten.length : Nat) ∧ Below w.heap.size w wr) (fun _ b _ => L.length - (intOf b).toNat)
  case atStart => exact ⟨0, by omega, rfl, by simp, Below.refl _ _⟩
  case round =>
    obtain ⟨k, hk, rfl, rfl, hb⟩ := hrel
    by_cases hlt : k < L.length
    · obtain ⟨g, off, ad, cp, rfl, hg, c0, -⟩ := HC.out k hlt
      have q0 := cell_below hb c0
      have ik : (k : Int) < (L.length : Int) := by omega
      have HZ : Hid ((L.take (k + 1)).flatten.length = (L.take k).flatten.length + (gl L k).length) := flat_take hlt
      have h1 := HLE.out (k + 1)
      rw [HZ.out] at h1
      clear c0
      generalize hN : (L.take k).flatten.length = N at *
      generalize hG : (gl L k).length = G at *
      have q5 : ¬ ((N : Int) + (G : Int) < 0) := by omega
      have q6 : (N : Int) + (G : Int) ≤ 2000000 := by omega
      have q7 : (0 : Int) ≤ (N : Int) + (G : Int) := by omega
      go_wp2_with fail
      go_roundw
      case rel => exact ⟨k + 1, by omega, by go_num, by rw [HZ.out]; go_num, hb⟩
      case measure => simp [intOf]; omega
    · obtain rfl : k = L.length := by omega
      have hszr := hb.size
      have hN2 := HLE.out L.length
      generalize (L.take L.length).flatten.length = N at *
      go_wp2_with fail
      refine (growR_any N (by omega) _).mono ?_
      rintro e w1 ⟨o1, rfl, own1, hb1⟩
      have hbw1 := bStep hb hb1
      have HO1 : Hid (OwnR w1 w.heap.size o1 []) := own_less own1 hszr
      clear own1 hb1 hb hszr
      go_wp2_with fail
      go_loopw [6, 27] (fun o b wr => ∃ k : Nat, k ≤ L.length ∧ b = .int .i64 k ∧ OwnR wr w.heap.size o (L.take k).flatten ∧ Below w.heap.size w wr) (fun _ b _ => L.length - (intOf b).toNat)
      case atStart => exact ⟨0, by omega, rfl, HO1.out, hbw1⟩
      case round =>
        clear HO1 hbw1
        obtain ⟨k, hk, rfl, hown, hb⟩ := hrel
        have HO : Hid (OwnR wr w.heap.size u6 (L.take k).flatten) := hown
        have hszr := hb.size
        clear hown
        by_cases hlt : k < L.length
        · obtain ⟨g, off, ad, cp, rfl, hg, c0, hR⟩ := HC.out k hlt
          have q0 := cell_below hb c0
          have ik : (k : Int) < (L.length : Int) := by omega
          have HZ : Hid ((L.take (k + 1)).flatten = (L.take k).flatten ++ gl L k) := flat_snoc hlt
          have h1 := HLE.out (k + 1)
          rw [HZ.out, List.length_append] at h1
          have R1 := hR.keep hb
          have O1 : OwnR wr w.heap.size u6 (L.take k).flatten := HO.out
          clear c0 hR HO
          generalize (L.take k).flatten = P at *
          generalize gl L k = G at *
          go_wp2_with (at_builtin; refine appRs _ rfl _ _ rfl w.heap.size _ P rfl O1 _ G rfl R1 (by omega) (by omega) ?_; intro v5 w5 own5 hg5)
          have hb5 : Below w.heap.size w w5 := Below.grew hb hg5 (by omega) (ownK_base O1)
          exact ⟨⟨k + 1, by omega, by go_num, by rw [HZ.out]; exact own5, hb5⟩, by simp [intOf]; omega⟩
        · obtain rfl : k = L.length := by omega
          rw [List.take_length] at HO
          go_wp2_with fail
          go_ret
          exact ⟨_, rfl, HO.out, hb⟩
end Go.Proofs.YtjkojbafifbdgaaGreat
