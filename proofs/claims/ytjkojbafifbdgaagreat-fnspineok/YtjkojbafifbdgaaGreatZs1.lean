/- SpineOk of the program and of the model: the contracts. -/
import Derived.Test.YtjkojbafifbdgaaGreatZm0
namespace Go.Proofs.YtjkojbafifbdgaaGreat
open Go.RowKit Go.Shelf

theorem spok_long {L : List (List Rw)} {F : List (Int × Int)} (h : 6 < L.length) : spokB L F = false := by
  rw [Bool.eq_false_iff]; intro e; have := (spok_iff.1 e).1; omega
theorem spok_front {L : List (List Rw)} {F : List (Int × Int)} (h : fokB F = false) : spokB L F = false := by
  rw [Bool.eq_false_iff]; intro e; rw [(spok_iff.1 e).2.1] at h; cases h
theorem spok_bad {L : List (List Rw)} {F : List (Int × Int)} {k : Nat} (hk : k < L.length) (h : bokB (gl L k) = false) : spokB L F = false := by
  rw [Bool.eq_false_iff]; intro e; rw [(spok_iff.1 e).2.2.1 _ (gl_mem hk)] at h; cases h
theorem gl_of_mem {L : List (List Rw)} {l : List Rw} (h : l ∈ L) : ∃ j, j < L.length ∧ gl L j = l := by
  obtain ⟨j, hj, e⟩ := List.getElem_of_mem h
  refine ⟨j, hj, ?_⟩
  have := gl_at hj
  rw [List.getElem?_eq_getElem hj] at this
  rw [← Option.some.inj this, e]
theorem spok_end {L : List (List Rw)} {F : List (Int × Int)} (h6 : L.length ≤ 6) (hF : fokB F = true) (h : ∀ j, j < L.length → bokB (gl L j) = true) : spokB L F = decide (L.flatten.length ≤ 400) := by
  rw [Bool.eq_iff_iff, spok_iff, decide_eq_true_eq]
  constructor
  · exact fun e => e.2.2.2
  · intro e
    refine ⟨h6, hF, fun l hl => ?_, e⟩
    obtain ⟨j, hj, rfl⟩ := gl_of_mem hl
    exact h j hj
theorem flat_take {L : List (List Rw)} {k : Nat} (hk : k < L.length) : (L.take (k + 1)).flatten.length = (L.take k).flatten.length + (gl L k).length := by
  rw [take_snoc (gl_at hk), List.flatten_append, List.length_append]; simp
theorem flat_few {L : List (List Rw)} {k : Nat} (hk : k ≤ L.length) (h : ∀ j, j < k → bokB (gl L j) = true) : (L.take k).flatten.length ≤ 400 * k := by
  induction k with
  | zero => simp
  | succ k ih =>
    rw [flat_take (by omega)]
    have h1 := ih (by omega) (fun j hj => h j (by omega))
    have h2 := rok_len (bok_rok (h k (by omega)))
    omega
set_option maxRecDepth 100000 in
set_option maxHeartbeats 4000000 in
theorem implSpineOk_any (lv fv : Value) (L : List (List Rw)) (F : List (Int × Int)) (w : World) (h : Spn w lv fv L F) :
    Calls Tryz.prog 8 #[spv lv fv] w fun e w' => e = .returned (.bool (spokB L F)) ∧ Below w.heap.size w w' := by
  obtain ⟨hL, hF⟩ := h
  obtain ⟨aL, cL, rfl, hc, hm, hn, hcells⟩ := Ly.open hL
  unfold maxLen at hm
  have HF := (show Hid (Ts w fv F) from hF)
  obtain ⟨aF, cF, rfl, -⟩ := hF
  have HC := (show Hid _ from hcells)
  have bt0 : Bk (w.alloc (.cells #[.slice aL L.length cL, .slice aF F.length cF] 26)) w.heap.size #[.slice aL L.length cL, .slice aF F.length cF] 26 := Bk.new _ _ rfl
  have hb0 : Below w.heap.size w (w.alloc (.cells #[.slice aL L.length cL, .slice aF F.length cF] 26)) := bAlloc (Below.refl _ _) _
  obtain ⟨s0, s1, _, _⟩ := bt0.two
  clear hcells hL
  by_cases h6 : 6 < L.length
  · have HN : Hid (spokB L F = false) := spok_long h6
    have g6 : (6 : Int) < (L.length : Int) := by omega
    go_enter Tryz.func8, Tryz.ntmps8
    go_wp2_with fail
    go_ret
    exact ⟨by rw [HN.out]; rfl, hb0⟩
  have g6 : ¬ (6 : Int) < (L.length : Int) := by omega
  cases hf : fokB F
  · have HN : Hid (spokB L F = false) := spok_front hf
    go_enter Tryz.func8, Tryz.ntmps8
    go_wp2_with fail
    refine (implFrontOk_eq hf (HF.out.keep hb0)).mono ?_
    rintro e w1 ⟨rfl, hb1⟩
    go_wp2_with fail
    go_ret
    exact ⟨by rw [HN.out]; rfl, bStep hb0 hb1⟩
  go_enter Tryz.func8, Tryz.ntmps8
  go_wp2_with fail
  refine (implFrontOk_eq hf (HF.out.keep hb0)).mono ?_
  rintro e w1 ⟨rfl, hb1⟩
  have hbw1 := bStep hb0 hb1
  obtain ⟨s2, s3, _, _⟩ := (bt0.keep hb1).two
  clear s0 s1 hb0 hb1 bt0
  go_wp2_with fail
  go_loopw [3, 19] (fun n b wr => ∃ k : Nat, k ≤ L.length ∧ b = .int .i64 k ∧ n = .int .i64 ((L.take k).flatten.length : Nat) ∧ (∀ j, j < k → bokB (gl L j) = true) ∧ Below w.heap.size w wr) (fun _ b _ => L.length - (intOf b).toNat)
  case atStart => exact ⟨0, by omega, rfl, by simp, fun j hj => by omega, hbw1⟩
  case round =>
    obtain ⟨k, hk, rfl, rfl, hall, hb⟩ := hrel
    have HA := (show Hid (∀ j, j < k → bokB (gl L j) = true) from hall)
    have hfew := flat_few hk hall
    clear hall
    by_cases hlt : k < L.length
    · obtain ⟨g, off, ad, cp, rfl, hg, c0, hR⟩ := HC.out k hlt
      have q0 := cell_below hb c0
      have ik : (k : Int) < (L.length : Int) := by omega
      have HZ : Hid ((L.take (k + 1)).flatten.length = (L.take k).flatten.length + (gl L k).length) := flat_take hlt
      have HR := (show Hid (Rs wr (.slice ad (gl L k).length cp) (gl L k)) from hR.keep hb)
      clear c0 hR
      cases hbk : bokB (gl L k)
      · have HN : Hid (spokB L F = false) := spok_bad hlt hbk
        generalize hG : gl L k = G at *
        go_wp2_with fail
        refine (implBatchOk_eq hbk HR.out).mono ?_
        rintro e w2 ⟨rfl, hb2⟩
        go_wp2_with fail
        go_ret
        exact ⟨by rw [HN.out]; rfl, bStep hb hb2⟩
      · have HA2 : Hid (∀ j, j < k + 1 → bokB (gl L j) = true) := fun j hj => by
          by_cases e : j = k
          · rw [e]; exact hbk
          · exact HA.out j (by omega)
        have hg4 := rok_len (bok_rok hbk)
        generalize hG : gl L k = G at *
        generalize hN : (L.take k).flatten.length = N at *
        go_wp2_with fail
        refine (implBatchOk_eq hbk HR.out).mono ?_
        rintro e w2 ⟨rfl, hb2⟩
        have hbn := bStep hb hb2
        go_wp2_with fail
        go_roundw
        case rel => exact ⟨k + 1, by omega, by go_num, by rw [HZ.out]; go_num, HA2.out, hbn⟩
        case measure => simp [intOf]; omega
    · obtain rfl : k = L.length := by omega
      have HN : Hid (spokB L F = decide (L.flatten.length ≤ 400)) := spok_end (by omega) hf HA.out
      rw [List.take_length] at hfew ⊢
      generalize hN : L.flatten.length = N at *
      go_wp2_with fail
      go_ret
      exact ⟨by rw [HN.out]; simp; omega, hb⟩
set_option maxRecDepth 100000 in
set_option maxHeartbeats 4000000 in
theorem specSpineOk_any (lv fv : Value) (L : List (List Rw)) (F : List (Int × Int)) (w : World) (h : Spn w lv fv L F) :
    Calls Tryz.prog 9 #[spv lv fv] w fun e w' => e = .returned (.bool (spokB L F)) ∧ Below w.heap.size w w' := by
  obtain ⟨hL, hF⟩ := h
  obtain ⟨aL, cL, rfl, hc, hm, hn, hcells⟩ := Ly.open hL
  unfold maxLen at hm
  have HF := (show Hid (Ts w fv F) from hF)
  obtain ⟨aF, cF, rfl, -⟩ := hF
  have HC := (show Hid _ from hcells)
  have bt0 : Bk (w.alloc (.cells #[.slice aL L.length cL, .slice aF F.length cF] 26)) w.heap.size #[.slice aL L.length cL, .slice aF F.length cF] 26 := Bk.new _ _ rfl
  have hb0 : Below w.heap.size w (w.alloc (.cells #[.slice aL L.length cL, .slice aF F.length cF] 26)) := bAlloc (Below.refl _ _) _
  obtain ⟨s0, s1, _, _⟩ := bt0.two
  clear hcells hL
  by_cases h6 : 6 < L.length
  · have HN : Hid (spokB L F = false) := spok_long h6
    have g6 : (6 : Int) < (L.length : Int) := by omega
    go_enter Tryz.func9, Tryz.ntmps9
    go_wp2_with fail
    go_ret
    exact ⟨by rw [HN.out]; rfl, hb0⟩
  have g6 : ¬ (6 : Int) < (L.length : Int) := by omega
  cases hf : fokB F
  · have HN : Hid (spokB L F = false) := spok_front hf
    go_enter Tryz.func9, Tryz.ntmps9
    go_wp2_with fail
    refine (specFrontOk_eq hf (HF.out.keep hb0)).mono ?_
    rintro e w1 ⟨rfl, hb1⟩
    go_wp2_with fail
    go_ret
    exact ⟨by rw [HN.out]; rfl, bStep hb0 hb1⟩
  go_enter Tryz.func9, Tryz.ntmps9
  go_wp2_with fail
  refine (specFrontOk_eq hf (HF.out.keep hb0)).mono ?_
  rintro e w1 ⟨rfl, hb1⟩
  have hbw1 := bStep hb0 hb1
  have bt1 := bt0.keep hb1
  clear s0 s1 hb0 hb1 bt0
  go_wp2_with fail
  go_loopw [3, 4] (fun n b wr => ∃ k : Nat, k ≤ L.length ∧ b = .int .i64 k ∧ n = .int .i64 ((L.take k).flatten.length : Nat) ∧ (∀ j, j < k → bokB (gl L j) = true) ∧ Below w1.heap.size w1 wr) (fun _ b _ => L.length - (intOf b).toNat)
  case atStart => exact ⟨0, by omega, rfl, by simp, fun j hj => by omega, Below.refl _ _⟩
  case round =>
    obtain ⟨k, hk, rfl, rfl, hall, hb⟩ := hrel
    obtain ⟨s0, s1, _, _⟩ := (bt1.keep hb).two
    have hbw := bStep hbw1 hb
    have HA := (show Hid (∀ j, j < k → bokB (gl L j) = true) from hall)
    have hfew := flat_few hk hall
    clear hall
    by_cases hlt : k < L.length
    · obtain ⟨g, off, ad, cp, rfl, hg, c0, hR⟩ := HC.out k hlt
      have q0 := cell_below hbw c0
      have ik : (k : Int) < (L.length : Int) := by omega
      have HZ : Hid ((L.take (k + 1)).flatten.length = (L.take k).flatten.length + (gl L k).length) := flat_take hlt
      have HR := (show Hid (Rs wr (.slice ad (gl L k).length cp) (gl L k)) from hR.keep hbw)
      clear c0 hR
      cases hbk : bokB (gl L k)
      · have HN : Hid (spokB L F = false) := spok_bad hlt hbk
        generalize hG : gl L k = G at *
        go_wp2_with fail
        refine (specBatchOk_eq hbk HR.out).mono ?_
        rintro e w2 ⟨rfl, hb2⟩
        go_wp2_with fail
        go_ret
        exact ⟨by rw [HN.out]; rfl, bStep hbw hb2⟩
      · have HA2 : Hid (∀ j, j < k + 1 → bokB (gl L j) = true) := fun j hj => by
          by_cases e : j = k
          · rw [e]; exact hbk
          · exact HA.out j (by omega)
        have hg4 := rok_len (bok_rok hbk)
        generalize hG : gl L k = G at *
        generalize hN : (L.take k).flatten.length = N at *
        go_wp2_with fail
        refine (specBatchOk_eq hbk HR.out).mono ?_
        rintro e w2 ⟨rfl, hb2⟩
        have hbn := bStep hb hb2
        obtain ⟨r0, r1, _, _⟩ := (bt1.keep hbn).two
        have q1 := cell_below hb2 q0
        clear s0 s1 q0
        go_wp2_with fail
        go_roundw
        case rel => exact ⟨k + 1, by omega, by go_num, by rw [HZ.out]; go_num, HA2.out, hbn⟩
        case measure => simp [intOf]; omega
    · obtain rfl : k = L.length := by omega
      have HN : Hid (spokB L F = decide (L.flatten.length ≤ 400)) := spok_end (by omega) hf HA.out
      rw [List.take_length] at hfew ⊢
      generalize hN : L.flatten.length = N at *
      go_wp2_with fail
      go_ret
      exact ⟨by rw [HN.out]; simp; omega, hbw⟩
end Go.Proofs.YtjkojbafifbdgaaGreat
