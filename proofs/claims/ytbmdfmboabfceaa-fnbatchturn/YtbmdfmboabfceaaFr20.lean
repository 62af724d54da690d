/- What FrontOf of the program answers: the contract. -/
import Derived.Test.YtbmdfmboabfceaaFr18
import Derived.Test.YtbmdfmboabfceaaFr19
namespace Go.Proofs.Ytbmdfmboabfceaa
open Go.RowKit

set_option maxHeartbeats 4000000 in
theorem insertN_any (w : World) :
    Calls Try.prog 189 #[.slice none 0 0, .int .i64 0, .int .i64 0, .func (.func 126) #[] #[]] w fun e w' => e = .returned (.tuple #[]) ∧ w' = w := by
  go_enter Try.func189, Try.ntmps189
  go_wp2_with fail
  refine wp_loop_rounds 1 ?_
  rw [rounds_succ]
  go_wp2_with fail
  go_end0
  exact ⟨rfl, rfl⟩
set_option maxHeartbeats 4000000 in
theorem pdqN_any (r : Int) (w : World) :
    Calls Try.prog 168 #[.slice none 0 0, .int .i64 0, .int .i64 0, .int .i64 r, .func (.func 126) #[] #[]] w fun e w' => e = .returned (.tuple #[]) ∧ w' = w := by
  go_enter Try.func168, Try.ntmps168
  go_wp2_with fail
  refine wp_loop_rounds 1 ?_
  rw [rounds_succ]
  go_wp2_with fail
  refine (insertN_any _).mono ?_
  rintro e w1 ⟨rfl, rfl⟩
  go_wp2_with fail
  (try simp only [Exit.inBlock, Exit.then])
  refine bodyPost_ret (results_none rfl _ _ _) rfl ?_
  exact ⟨rfl, rfl⟩
set_option maxHeartbeats 4000000 in
theorem sortN_any (w : World) : Calls Try.prog 122 #[.slice none 0 0, .func (.func 126) #[] #[]] w fun e w' => e = .returned (.tuple #[]) ∧ w' = w := by
  go_enter Try.func122, Try.ntmps122
  go_wp2_with (first | (go_at_call 169; refine (len_any 0 (by omega) _).mono ?_; rintro e w' ⟨⟨r, rfl⟩, rfl⟩) | (go_at_call 168; refine (pdqN_any _ _).mono ?_; rintro e w1 ⟨rfl, rfl⟩))
  go_end0
  exact ⟨rfl, rfl⟩
/-- The sort of what was kept is the front. -/
theorem sortF_any {B : Nat} {v : Value} {l : List (Int × Int)} {w : World} (ha : aokB l = true) (h : Own w B v (earlTo l l.length)) (hB : B ≤ w.heap.size) :
    Calls Try.prog 122 #[v, .func (.func 126) #[] #[]] w fun e w' => e = .returned (.tuple #[]) ∧ Own w' B v (frontL l) ∧ Below B w w' := by
  have hlen := (earl_perm ha).length_eq
  have h8 := front_len8 l
  rcases own_open h with ⟨rfl, hnil⟩ | ⟨g, cap, c, rfl, hg, hb, hs, hc, hm, hfill⟩
  · refine (sortN_any w).mono ?_
    rintro e w' ⟨rfl, rfl⟩
    rw [hnil] at hlen
    have : frontL l = [] := List.eq_nil_of_length_eq_zero hlen.symm
    rw [this]
    exact ⟨rfl, ⟨rfl, .inl ⟨rfl, rfl⟩⟩, Below.refl _ _⟩
  · refine (sort_any g cap c _ w hb hs hc (by omega) hfill).mono ?_
    rintro e w' ⟨c', l', rfl, hp, hsrt, b', s', f', x'⟩
    have hl' := hp.length_eq
    have e := earl_sort ha hp (fun a b h1 h2 => hsrt a b h1 (by omega))
    subst e
    rw [hlen] at f' hc ⊢
    exact ⟨rfl, own_of_fill b' f' s' hc hm hg, x'.bel hB hg⟩

theorem implOk_eq {a b : Int} {r : Bool} (h : okB a b = r) (w : World) : Calls Try.prog 112 #[tv a b] w fun e w' => e = .returned (.bool r) ∧ Below w.heap.size w w' := by
  rw [← h]; exact implOk_any a b w
set_option maxHeartbeats 4000000 in
theorem implFrontOf_any (v : Value) (l : List (Int × Int)) (w : World) (h : Ts w v l) :
    Calls Try.prog 64 #[v] w fun e w' => ∃ o : Value, e = .returned o ∧ Own w' w.heap.size o (frontL l) ∧ Below w.heap.size w w' := by
  have TS := (show Hid _ from h)
  obtain ⟨a, cap, rfl, hc, hm, hn, hcells⟩ := h
  unfold maxLen at hm
  have HC := (show Hid _ from hcells)
  clear hcells
  go_enter Try.func64, Try.ntmps64
  go_wp2_with fail
  go_loopw [8] (fun i wr => ∃ k : Nat, k ≤ l.length ∧ i = .int .i64 k ∧ (∀ j, j < k → okB (tA l j) (tB l j) = true) ∧ Below w.heap.size w wr) (fun i _ => l.length - (intOf i).toNat)
  case atStart => exact ⟨0, by omega, rfl, fun j hj => by omega, Below.refl _ _⟩
  case round =>
    obtain ⟨k, hk, rfl, hall, hb⟩ := hrel
    have HA := (show Hid _ from hall)
    clear hall
    by_cases hlt : k < l.length
    · obtain ⟨g, off, rfl, hg, c0, c1⟩ := HC.out k hlt
      have d0 := cell_below hb c0
      have d1 := cell_below hb c1
      clear c0 c1
      generalize hX : tA l k = X at *
      generalize hY : tB l k = Y at *
      have EX : Hid (tA l k = X) := hX
      have EY : Hid (tB l k = Y) := hY
      clear hX hY
      have hb2 : Below wr.heap.size wr (wr.alloc (.cells #[.int .i64 X, .int .i64 Y] 31)) := bAlloc (Below.refl _ _) _
      cases hp : okB X Y
      · have HK : Hid (frontL l = []) := by
          show _ = _
          have : aokB l = false := aok_false hlt (by rw [EX.out, EY.out]; exact hp)
          unfold frontL; rw [this]; rfl
        go_wp2_with fail
        refine (implOk_eq hp _).mono ?_
        rintro e w1 ⟨rfl, hb1⟩
        have hbw := bStep (bStep hb hb2) hb1
        go_wp2_with fail
        go_ret
        rw [HK.out]
        exact ⟨_, rfl, ⟨rfl, .inl ⟨rfl, rfl⟩⟩, hbw⟩
      · have HK : Hid (okB (tA l k) (tB l k) = true) := by show _ = true; rw [EX.out, EY.out]; exact hp
        go_wp2_with fail
        refine (implOk_eq hp _).mono ?_
        rintro e w1 ⟨rfl, hb1⟩
        have hbw := bStep (bStep hb hb2) hb1
        go_wp2_with fail
        go_roundw
        case rel =>
          refine ⟨k + 1, by omega, by go_num, fun j hj => ?_, hbw⟩
          by_cases e : j = k
          · subst e; exact HK.out
          · exact HA.out j (by omega)
        case measure => simp [intOf]; omega
    · obtain rfl : k = l.length := by omega
      have ha : Hid (aokB l = true) := aok_true HA.out
      go_wp2_with fail
      refine (earliest_any _ l wr (Ts.keep TS.out hb)).mono ?_
      rintro e w1 ⟨o, rfl, hown, hb1⟩
      have hsz := hb.size
      have hsz1 := hb1.size
      go_wp2_with fail
      refine (sortF_any ha.out hown (by omega)).mono ?_
      rintro e w2 ⟨rfl, hown2, hb2⟩
      go_wp2_with fail
      go_ret
      exact ⟨_, rfl, own_less hown2 hsz, bStep hb (hb1.trans hb2)⟩
end Go.Proofs.Ytbmdfmboabfceaa
