/- SpineAll and SpineAt of the program, SpineAll of the model: the contracts. -/
import Derived.Test.YtjkojbafifbdgaaZs2
import Derived.Deep.RegionHeld3
namespace Go.Proofs.Ytjkojbafifbdgaa
open Go.RowKit Go.Shelf

def sallL (L : List (List Rw)) (F : List (Int × Int)) : List Rw := if spokB L F then sumF L.flatten else []
theorem sall_len (L : List (List Rw)) (F : List (Int × Int)) : (sallL L F).length ≤ 400 := by
  unfold sallL; split
  · exact sumF_len4 _
  · simp
def satB (L : List (List Rw)) (F : List (Int × Int)) (x y : Int) : Bool := spokB L F && okB x y && askedB F x y
def satL (L : List (List Rw)) (F : List (Int × Int)) (x y : Int) : List It := if satB L F x y then itemsL L.flatten x y else []
theorem satB_no1 {L : List (List Rw)} {F : List (Int × Int)} {x y : Int} (h : spokB L F = false) : satB L F x y = false := by simp [satB, h]
theorem satB_no2 {L : List (List Rw)} {F : List (Int × Int)} {x y : Int} (h : okB x y = false) : satB L F x y = false := by simp [satB, h]
theorem satB_no3 {L : List (List Rw)} {F : List (Int × Int)} {x y : Int} (h : askedB F x y = false) : satB L F x y = false := by simp [satB, h]
theorem satB_yes {L : List (List Rw)} {F : List (Int × Int)} {x y : Int} (h1 : spokB L F = true) (h2 : okB x y = true) (h3 : askedB F x y = true) : satB L F x y = true := by simp [satB, h1, h2, h3]
theorem Spn.open {w : World} {lv fv : Value} {L : List (List Rw)} {F : List (Int × Int)} (h : Spn w lv fv L F) : ∃ aL cL aF cF, lv = .slice aL L.length cL ∧ fv = .slice aF F.length cF := by
  obtain ⟨aL, cL, e1, -⟩ := Ly.open h.1
  obtain ⟨aF, cF, e2, -⟩ := h.2
  exact ⟨aL, cL, aF, cF, e1, e2⟩
theorem implSpineOk_eq {L : List (List Rw)} {F : List (Int × Int)} {r : Bool} (e : spokB L F = r) {lv fv : Value} {w : World} (h : Spn w lv fv L F) :
    Calls Try.prog 39 #[spv lv fv] w fun e w' => e = .returned (.bool r) ∧ Below w.heap.size w w' := by
  rw [← e]; exact implSpineOk_any lv fv L F w h
theorem specSpineOk_eq {L : List (List Rw)} {F : List (Int × Int)} {r : Bool} (e : spokB L F = r) {lv fv : Value} {w : World} (h : Spn w lv fv L F) :
    Calls Try.prog 72 #[spv lv fv] w fun e w' => e = .returned (.bool r) ∧ Below w.heap.size w w' := by
  rw [← e]; exact specSpineOk_any lv fv L F w h
set_option maxHeartbeats 4000000 in
theorem implSpineAll_any (lv fv : Value) (L : List (List Rw)) (F : List (Int × Int)) (w : World) (h : Spn w lv fv L F) :
    Calls Try.prog 46 #[spv lv fv] w fun e w' => ∃ o : Value, e = .returned o ∧ OwnR w' w.heap.size o (sallL L F) ∧ Below w.heap.size w w' := by
  have HS := (show Hid (Spn w lv fv L F) from h)
  obtain ⟨aL, cL, aF, cF, rfl, rfl⟩ := Spn.open h
  have bt0 : Bk (w.alloc (.cells #[.slice aL L.length cL, .slice aF F.length cF] 54)) w.heap.size #[.slice aL L.length cL, .slice aF F.length cF] 54 := Bk.new _ _ rfl
  have hb0 : Below w.heap.size w (w.alloc (.cells #[.slice aL L.length cL, .slice aF F.length cF] 54)) := bAlloc (Below.refl _ _) _
  obtain ⟨s0, s1, _, _⟩ := bt0.two
  clear h
  cases hk : spokB L F
  · have HN : Hid (sallL L F = []) := by show _ = _; simp [sallL, hk]
    go_enter Try.func46, Try.ntmps46
    go_wp2_with fail
    refine (implSpineOk_eq hk (HS.out.keep hb0)).mono ?_
    rintro e w1 ⟨rfl, hb1⟩
    go_wp2_with fail
    go_ret
    exact ⟨_, rfl, by rw [HN.out]; exact ownK_nil _ _ _ _ _, bStep hb0 hb1⟩
  · have hrk := spok_rok hk
    have hfl := rok_len hrk
    have HN : Hid (sallL L F = batchL L.flatten) := by show _ = _; simp [sallL, hk, batchL, hrk]
    go_enter Try.func46, Try.ntmps46
    go_wp2_with fail
    refine (implSpineOk_eq hk (HS.out.keep hb0)).mono ?_
    rintro e w1 ⟨rfl, hb1⟩
    have hbw1 := bStep hb0 hb1
    obtain ⟨r0, r1, _, _⟩ := (bt0.keep hb1).two
    clear s0 s1 bt0 hb0 hb1
    go_wp2_with fail
    refine (concatL_any _ L w1 (HS.out.keep hbw1).1 (by omega)).mono ?_
    rintro e w2 ⟨o2, rfl, own2, hb2⟩
    have R2 := OwnR.rs own2 (by omega)
    have hbw2 := bStep hbw1 hb2
    have hs2 := hbw2.size
    clear own2 hb2 hbw1 r0 r1
    go_wp2_with fail
    refine (implBatchOf_any _ L.flatten w2 R2).mono ?_
    rintro e w3 ⟨o3, rfl, own3, hb3⟩
    have O3 : Hid (OwnR w3 w2.heap.size o3 (batchL L.flatten)) := own3
    clear own3
    go_wp2_with fail
    go_ret
    exact ⟨_, rfl, by rw [HN.out]; exact own_less O3.out hs2, bStep hbw2 hb3⟩
set_option maxRecDepth 100000 in
set_option maxHeartbeats 4000000 in
theorem specSpineAll_any (lv fv : Value) (L : List (List Rw)) (F : List (Int × Int)) (w : World) (h : Spn w lv fv L F) :
    Calls Try.prog 45 #[spv lv fv] w fun e w' => ∃ o : Value, e = .returned o ∧ OwnR w' w.heap.size o (sallL L F) ∧ Below w.heap.size w w' := by
  have HS := (show Hid (Spn w lv fv L F) from h)
  obtain ⟨aL, cL, rfl, hc, hm, hn, hcells⟩ := Ly.open h.1
  unfold maxLen at hm
  have HC := (show Hid _ from hcells)
  obtain ⟨aF, cF, rfl, -⟩ := h.2
  have bt0 : Bk ((w.alloc (.cells #[.slice aL L.length cL, .slice aF F.length cF] 54)).alloc (.cells #[] 75)) w.heap.size #[.slice aL L.length cL, .slice aF F.length cF] 54 := (Bk.new _ _ rfl).alloc _
  have hb0 : Below w.heap.size w ((w.alloc (.cells #[.slice aL L.length cL, .slice aF F.length cF] 54)).alloc (.cells #[] 75)) := bAlloc (bAlloc (Below.refl _ _) _) _
  have o0 := ownR_empty (w.alloc (.cells #[.slice aL L.length cL, .slice aF F.length cF] 54)) (B := w.heap.size + 1) (by simp)
  have hsz0 : ((w.alloc (.cells #[.slice aL L.length cL, .slice aF F.length cF] 54)).alloc (.cells #[] 75)).heap.size = w.heap.size + 1 + 1 := by simp
  have HSZ := (show Hid _ from hsz0)
  obtain ⟨M, HM, HMK⟩ : ∃ M, Hid (sallL L F = fitL (sumL ltS M)) ∧ Hid ((spokB L F = true → M = L.flatten) ∧ (spokB L F = false → M = [])) := by
    cases hk : spokB L F
    · exact ⟨[], by show _ = _; simp [sallL, hk]; rfl, by simp, by simp⟩
    · exact ⟨L.flatten, by show _ = _; simp [sallL, hk]; rfl, by simp, by simp⟩
  have HOK : Hid (spokB L F = true → L.flatten.length ≤ 400 ∧ L.length ≤ 6 ∧ absum L.flatten ≤ 39999600) := fun hk => ⟨(spok_iff.1 hk).2.2.2, (spok_iff.1 hk).1, by have := rok_abs (spok_rok hk); omega⟩
  clear hcells h hsz0
  go_enter Try.func45, Try.ntmps45
  go_wp2_with fail
  generalize ((w.alloc (.cells #[.slice aL L.length cL, .slice aF F.length cF] 54)).alloc (.cells #[] 75)) = w0 at *
  have hs0 : w.heap.size + 1 ≤ w0.heap.size := by have := HSZ.out; omega
  go_loopw [3, 4] (fun o b wr => ∃ k : Nat, k ≤ L.length ∧ b = .int .i64 k ∧ (0 < k → spokB L F = true) ∧ OwnR wr (w.heap.size + 1) o (L.take k).flatten ∧ Bk wr w.heap.size #[.slice aL L.length cL, .slice aF F.length cF] 54 ∧ w.heap.size + 1 ≤ wr.heap.size ∧ Below w.heap.size w wr) (fun _ b _ => L.length - (intOf b).toNat)
  case atStart => exact ⟨0, by omega, rfl, fun e => by omega, o0, bt0, hs0, hb0⟩
  case round =>
    clear o0 bt0 hs0 hb0
    obtain ⟨k, hk, rfl, hpos, hown, bt, hsz, hb⟩ := hrel
    have HO : Hid (OwnR wr (w.heap.size + 1) u3 (L.take k).flatten) := hown
    have HP := (show Hid (0 < k → spokB L F = true) from hpos)
    obtain ⟨s0, s1, _, _⟩ := bt.two
    clear hown hpos
    by_cases hlt : k < L.length
    case' pos =>
      have ik : (k : Int) < (L.length : Int) := by omega
      cases hsp : spokB L F
    · go_wp2_with fail
      refine (specSpineOk_eq hsp (HS.out.keep hb)).mono ?_
      rintro e w1 ⟨rfl, hb1⟩
      have hk0 : k = 0 := by
        by_cases e : 0 < k
        · have := HP.out e; rw [hsp] at this; cases this
        · omega
      have O1 : OwnR w1 (w.heap.size + 1) u3 M := by
        have := own_keep HO.out hb1
        rw [hk0] at this
        rw [HMK.out.2 hsp]; exact this
      have hMl : M.length ≤ 400 ∧ absum M ≤ 39999600 := by rw [HMK.out.2 hsp]; simp [absum]
      have hbw := bStep hb hb1
      have hsw := hbw.size
      have R1 := OwnR.rs O1 (by omega)
      obtain ⟨hMl1, hMl2⟩ := hMl
      clear HO O1 bt s0 s1 hb hb1
      go_wp2_with fail
      refine (l2Sum_any _ M _ R1 (by omega) (by omega)).mono ?_
      rintro e w2 ⟨o2, rfl, own2, hb2⟩
      have hbw2 := bStep hbw hb2
      have hl2 := sumL_len ltS M
      have R2 := OwnR.rs own2 (by omega)
      obtain ⟨a2, c2, rfl, -⟩ := Rs.open R2
      go_wp2_with fail
      refine (l2Fit_any own2 (by omega) hb2.size).mono ?_
      rintro e w3 ⟨o3, rfl, own3, hb3⟩
      have O3 := (show Hid (OwnR w3 w1.heap.size o3 (fitL (sumL ltS M))) from own3)
      clear own3 own2 R2
      go_wp2_with fail
      go_ret
      exact ⟨_, rfl, by rw [HM.out]; exact own_less O3.out hsw, bStep hbw2 hb3⟩
    · obtain ⟨g, off, ad, cp, rfl, hg, c0, hR⟩ := HC.out k hlt
      obtain ⟨hf4, hl6, -⟩ := HOK.out hsp
      go_wp2_with fail
      refine (specSpineOk_eq hsp (HS.out.keep hb)).mono ?_
      rintro e w1 ⟨rfl, hb1⟩
      have hbw := bStep hb hb1
      have hs1 := hb1.size
      have bt1 := bt.keep hb1
      obtain ⟨r0, r1, _, _⟩ := bt1.two
      have q0 := cell_below hbw c0
      have R1 := hR.keep hbw
      have O1 : OwnR w1 (w.heap.size + 1) u3 (L.take k).flatten := own_keep HO.out hb1
      have HZ : Hid ((L.take (k + 1)).flatten = (L.take k).flatten ++ gl L k) := flat_snoc hlt
      have h1 := flat_len_le L (k + 1)
      rw [HZ.out, List.length_append] at h1
      clear HO c0 hR s0 s1 bt hb hb1
      generalize (L.take k).flatten = P at *
      generalize gl L k = G at *
      go_wp2_with (at_builtin; refine appRs _ rfl _ _ rfl (w.heap.size + 1) _ P rfl O1 _ G rfl R1 (by omega) (by omega) ?_; intro v5 w5 own5 hg5)
      have hb5 : Below w.heap.size w w5 := Below.grew hbw hg5 (by omega) (fun q e => by have := ownK_base O1 q e; omega)
      have bt5 := Bk.grew bt1 hg5 (fun q e => by have := ownK_base O1 q e; omega)
      have hs5 := hg5.size
      exact ⟨⟨k + 1, by omega, by go_num, fun _ => by first | exact hsp | trivial, by rw [HZ.out]; exact own5, bt5, by omega, hb5⟩, by simp [intOf]; omega⟩
    · obtain rfl : k = L.length := by omega
      have O1 : OwnR wr (w.heap.size + 1) u3 M := by
        have := HO.out
        rw [List.take_length] at this
        cases hsp : spokB L F
        · have h0 : ¬ 0 < L.length := fun e => by have := HP.out e; rw [hsp] at this; cases this
          have : L = [] := List.eq_nil_of_length_eq_zero (by omega)
          subst this
          rw [HMK.out.2 hsp]; exact HO.out
        · rw [HMK.out.1 hsp]; exact this
      have hMl : M.length ≤ 400 ∧ absum M ≤ 39999600 := by
        cases hsp : spokB L F
        · rw [HMK.out.2 hsp]; simp [absum]
        · rw [HMK.out.1 hsp]; exact ⟨(HOK.out hsp).1, (HOK.out hsp).2.2⟩
      have R1 := OwnR.rs O1 (by omega)
      obtain ⟨hMl1, hMl2⟩ := hMl
      have hsw := hb.size
      clear HO O1
      go_wp2_with fail
      refine (l2Sum_any _ M _ R1 (by omega) (by omega)).mono ?_
      rintro e w2 ⟨o2, rfl, own2, hb2⟩
      have hbw2 := bStep hb hb2
      have hl2 := sumL_len ltS M
      have R2 := OwnR.rs own2 (by omega)
      obtain ⟨a2, c2, rfl, -⟩ := Rs.open R2
      go_wp2_with fail
      refine (l2Fit_any own2 (by omega) hb2.size).mono ?_
      rintro e w3 ⟨o3, rfl, own3, hb3⟩
      have O3 := (show Hid (OwnR w3 wr.heap.size o3 (fitL (sumL ltS M))) from own3)
      clear own3 own2 R2
      go_wp2_with fail
      go_ret
      exact ⟨_, rfl, by rw [HM.out]; exact own_less O3.out hsw, bStep hbw2 hb3⟩
end Go.Proofs.Ytjkojbafifbdgaa
