/- Contracts of FlowSum in the form in which the laws use them. -/
import Derived.Test.YtpjmkejojenflaaGreatGk2
import Derived.Test.YtpjmkejojenflaaGreatGf2
import Derived.Test.YtpjmkejojenflaaGreatGf3
namespace Go.Proofs.YtpjmkejojenflaaGreat
open Go.RowKit

theorem implFlowSum_k {l L : List Rw} {kind : Int} (e : fsumL l kind = L) {v : Value} {w : World} (h : Rs w v l) : Calls Tryz.prog 12 #[v, .int .i64 kind] w fun e w' => ∃ o : Value, e = .returned o ∧ Rs w' o L ∧ Below w.heap.size w w' :=
  ofOwnR e (by have := fsum_len l kind; omega) (implFlowSum_any v l kind w h)
theorem specFlowSum_k {l L : List Rw} {kind : Int} (e : fsumL l kind = L) {v : Value} {w : World} (h : Rs w v l) : Calls Tryz.prog 14 #[v, .int .i64 kind] w fun e w' => ∃ o : Value, e = .returned o ∧ Rs w' o L ∧ Below w.heap.size w w' :=
  ofOwnR e (by have := fsum_len l kind; omega) (specFlowSum_any v l kind w h)
theorem implFlowTimes_k {l : List Rw} {key : Int} {L : List (Int × Int)} (e : ftimesL l key = L) {v : Value} {w : World} (h : Rs w v l) : Calls Tryz.prog 21 #[v, .int .i64 key] w fun e w' => ∃ o : Value, e = .returned o ∧ Ts w' o L ∧ Below w.heap.size w w' :=
  ofOwnT e (by have := ftimes_len l key; omega) (implFlowTimes_any v l key w h)
theorem lwIn_yes {v : Value} {T : List (Int × Int)} {X Y : Int} {w : World} (hin : (X, Y) ∈ T) (h : Ts w v T) : Calls Tryz.prog 20 #[v, tv X Y] w fun e w' => e = .returned (.bool true) ∧ Below w.heap.size w w' := by
  have := lwIn_any v T X Y w h
  rw [show decide ((X, Y) ∈ T) = true by simp [hin]] at this; exact this
/-- What the laws make of items by a kind of sum. -/
def sumW (kind : Int) (s : List It) : List It := if inB kind 1 3 then sumK kind s else []
theorem sumW_len (kind : Int) (s : List It) (h : sokB s = true) : (sumW kind s).length ≤ 400 := by
  unfold sumW; split
  · exact sumK_len kind h
  · simp
set_option maxHeartbeats 4000000 in
theorem lwSum_k {s L : List It} {kind : Int} (e : sumW kind s = L) (hs : sokB s = true) {v : Value} {w : World} (h : Is w v s) : Calls Tryz.prog 19 #[v, .int .i64 kind] w fun e w' => ∃ o : Value, e = .returned o ∧ Is w' o L ∧ Below w.heap.size w w' := by
  have hl := sumW_len kind s hs
  rw [e] at hl
  cases hw : inB kind 1 3
  · have hL : L = [] := by rw [← e]; simp [sumW, hw]
    have h' : ¬ (1 ≤ kind ∧ kind ≤ 3) := by simp [inB] at hw; omega
    have e1 : (kind == 1) = false := beq_eq_false_iff_ne.2 (by omega)
    have e2 : (kind == 2) = false := beq_eq_false_iff_ne.2 (by omega)
    have e3 : (kind == 3) = false := beq_eq_false_iff_ne.2 (by omega)
    go_enter Tryz.func19, Tryz.ntmps19
    go_wp2_with fail
    go_ret
    exact ⟨_, rfl, by rw [hL]; exact OwnI.is (ownI_empty w rfl) (by simp), bAlloc (Below.refl _ _) _⟩
  · have hk : kind = 1 ∨ kind = 2 ∨ kind = 3 := by simp [inB] at hw; omega
    have HE : Hid (sumK kind s = L) := by show _ = _; rw [← e]; simp [sumW, hw]
    rcases hk with rfl | rfl | rfl
    · go_enter Tryz.func19, Tryz.ntmps19
      go_wp2_with fail
      refine (implSetCount_any v s w h).mono ?_
      rintro e w1 ⟨o, rfl, own, hb⟩
      rw [sum_count, HE.out] at own
      have O := (show Hid (OwnI w1 w.heap.size o L) from own)
      clear own
      go_wp2_with fail
      go_ret
      exact ⟨_, rfl, OwnI.is O.out (by omega), hb⟩
    · go_enter Tryz.func19, Tryz.ntmps19
      go_wp2_with fail
      refine (implSetOnce_any v s w h).mono ?_
      rintro e w1 ⟨o, rfl, own, hb⟩
      rw [sum_once, HE.out] at own
      have O := (show Hid (OwnI w1 w.heap.size o L) from own)
      clear own
      go_wp2_with fail
      go_ret
      exact ⟨_, rfl, OwnI.is O.out (by omega), hb⟩
    · go_enter Tryz.func19, Tryz.ntmps19
      go_wp2_with fail
      refine (implSetLeast_any v s w h).mono ?_
      rintro e w1 ⟨o, rfl, own, hb⟩
      rw [sum_least, HE.out] at own
      have O := (show Hid (OwnI w1 w.heap.size o L) from own)
      clear own
      go_wp2_with fail
      go_ret
      exact ⟨_, rfl, OwnI.is O.out (by omega), hb⟩
/-- P38, for every kind. -/
theorem fsumW_items {kind : Int} {a : List Rw} (h : rokB a = true) (hl : a.length ≤ 11) {x y : Int} (hx : okB x y = true) : itemsL (fsumL a kind) x y = sumW kind (itemsL a x y) := by
  unfold sumW
  cases hw : inB kind 1 3
  · rw [fsum_no2 hw]
    simp only [Bool.false_eq_true, if_false]
    rw [items_yes rok_nil hx]; rfl
  · simp only [if_true]; exact fsum_items h hw hl hx
/-- P45. -/
theorem fsum_move {kind : Int} {a : List Rw} {f : List (Int × Int)} (hf : fokB f = true) (h : rokB a = true) (hl : a.length ≤ 11) (ha : absum a ≤ 33) {x y : Int} (hx : okB x y = true) (hc : askedB f x y = true) : itemsL (fsumL a kind) x y = itemsL (fsumL (bmoveL a f) kind) x y := by
  rw [fsumW_items h hl hx, fsumW_items (bmove_rok a f) (Nat.le_trans (bmove_few a f) hl) hx, move_items hf h (by omega) hx hc]
/-- P47. -/
theorem less_none {a : List Rw} (h : rokB a = true) : bothB a (lessL a) = [] := by
  have hl : lessL a = sumF (negL a) := by unfold lessL; rw [if_pos h]
  have hbk : rokB (lessL a) = true := by rw [hl]; exact bok_rok (sumF_bok _)
  rw [bothB_yes h hbk]
  by_cases hk : rokB (sumL ltS (negL a)) = true
  · have e : sumF (a ++ lessL a) = sumF [] := sumF_congr fun s => by
      rw [tot_append, hl, sumF_ok hk, sumL_tot ltS_ord]
      unfold negL
      rw [tot_neg]; simp [tot]; omega
    rw [e, sumF_self bok_nil]
  · have hk : rokB (sumL ltS (negL a)) = false := by simpa using hk
    rw [hl, sumF_no hk, List.append_nil]
    refine sumF_no ?_
    rw [Bool.eq_false_iff]
    intro e
    rw [Bool.eq_false_iff] at hk
    refine hk (rok_mk ?_ fun r hr => ?_)
    · have h1 := sumL_len ltS (negL a)
      have h2 := rok_len h
      simp only [negL, List.length_map] at h1
      have h3 : (sumL ltS (List.map (fun r => (r.1, -r.2)) a)) = sumL ltS (negL a) := rfl
      rw [h3] at h1
      omega
    · have ht := srt_tot ltS_ord (sumL_srt ltS_ord (negL a)) hr
      rw [sumL_tot ltS_ord] at ht
      unfold negL at ht
      rw [tot_neg] at ht
      have hn := sumL_nz ltS (negL a) r hr
      have hm : ((r.1, -r.2) : Rw) ∈ sumL ltS a := (srt_mem ltS_ord (sumL_srt ltS_ord a) (sumL_nz ltS a) _).2 ⟨by simp only; omega, by rw [sumL_tot ltS_ord]; simp only; omega⟩
      have hq := rok_at e hm
      simp only [rwOkB, Bool.and_eq_true] at hq ⊢
      refine ⟨hq.1, ?_⟩
      have := hq.2
      simp only [inB, decide_eq_true_eq] at this ⊢
      omega
end Go.Proofs.YtpjmkejojenflaaGreat
