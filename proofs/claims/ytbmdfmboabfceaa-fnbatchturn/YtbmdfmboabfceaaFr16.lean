/- What the earliest of times are, and that the program's earliest answers so. -/
import Derived.Test.YtbmdfmboabfceaaFr15
import Derived.Test.YtbmdfmboabfceaaFr11
namespace Go.Proofs.Ytbmdfmboabfceaa
open Go.RowKit

theorem own_lt {w : World} {B : Nat} {v : Value} {l : List (Int × Int)} (h : Own w B v l) : ∀ k, v.ownBlock = some k → k < w.heap.size := by
  intro k hk
  rcases own_open h with ⟨rfl, _⟩ | ⟨g, cap, c, rfl, _, hb, _⟩
  · cases hk
  · have : g = k := by simpa [Value.ownBlock] using hk
    subst this; exact hb.lt

set_option maxHeartbeats 2000000 in
theorem deleteN_any (x y : Int) (bn bx : Nat) (w : World) (hf : Fk w bn) (hx : Bk w bx #[.int .i64 x, .int .i64 y] 31) :
    Calls Try.prog 170 #[.slice none 0 0, .func (.func 171) #[] #[.pointer (some ⟨bn, 0, none⟩), .pointer (some ⟨bx, 0, none⟩)]] w fun e w' => e = .returned (.slice none 0 0) ∧ Below w.heap.size w w' := by
  have ht : Ts w (.slice none 0 0) [] := ⟨none, 0, rfl, Nat.le_refl _, by unfold maxLen; omega, Nat.zero_le _, fun i hi => by simp at hi⟩
  go_enter Try.func170, Try.ntmps170
  go_wp2_with fail
  refine (indexD_any _ [] x y bn bx w ht hf hx).mono ?_
  rintro e w1 ⟨r, rfl, hr, hb1⟩
  rcases hr with ⟨rfl, _⟩ | ⟨k, _, hk, _, _⟩
  · go_wp2_with fail
    go_ret
    exact ⟨rfl, hb1⟩
  · simp at hk

theorem deleteO_any {B : Nat} {v : Value} {l : List (Int × Int)} {x y : Int} {bn bx : Nat} {w : World} (h : Own w B v l) (hn : l.length ≤ 2097152) (hf : Fk w bn) (hx : Bk w bx #[.int .i64 x, .int .i64 y] 31) (hbn : bn < B) (hB : B ≤ w.heap.size) (hbx : ∀ k, v.ownBlock = some k → k < bx) :
    Calls Try.prog 170 #[v, .func (.func 171) #[] #[.pointer (some ⟨bn, 0, none⟩), .pointer (some ⟨bx, 0, none⟩)]] w fun e w' =>
      ∃ o, e = .returned o ∧ Own w' B o (l.filter (offB x y)) ∧ Bk w' bx #[.int .i64 x, .int .i64 y] 31 ∧ Below B w w' := by
  rcases own_open h with ⟨rfl, rfl⟩ | ⟨g, cap, c, rfl, hg, hb, hs, hc, hm, hfill⟩
  · refine (deleteN_any x y bn bx w hf hx).mono ?_
    rintro e w' ⟨rfl, hb⟩
    exact ⟨_, rfl, own_keep h hb, hx.keep hb, Bx.bel (g := B) (Bx.of_below hb) hB (Nat.le_refl _)⟩
  · have hlt := hbx g rfl
    refine (deleteD_any g cap c l x y bn bx w hb hs hc hm hn hfill hf hx (by omega) (by omega)).mono ?_
    rintro e w' ⟨c', rfl, b', s', f', x'⟩
    have hle : (l.filter (offB x y)).length ≤ cap := Nat.le_trans (List.length_filter_le _ _) hc
    exact ⟨_, rfl, own_of_fill b' f' s' hle hm hg, hx.keepx x' (by omega), x'.bel hB hg⟩

/-- One more time: kept if none of those kept is not later; then those that it is not later than go. -/
def earlStep (acc : List (Int × Int)) (p : Int × Int) : List (Int × Int) := if anyB acc p.1 p.2 then acc else acc.filter (offB p.1 p.2) ++ [p]
def earlTo (l : List (Int × Int)) (k : Nat) : List (Int × Int) := (l.take k).foldl earlStep []
theorem earlTo_succ (l : List (Int × Int)) {k : Nat} (hk : k < l.length) : earlTo l (k + 1) = earlStep (earlTo l k) (tA l k, tB l k) := by
  have e : l[k] = (tA l k, tB l k) := by simp [tA, tB, hk]
  unfold earlTo
  rw [List.take_add_one, List.getElem?_eq_getElem hk, List.foldl_append, ← e]; rfl
theorem earlTo_len (l : List (Int × Int)) : ∀ k, k ≤ l.length → (earlTo l k).length ≤ k := by
  intro k
  induction k with
  | zero => intro _; simp [earlTo]
  | succ k ih =>
    intro hk
    have := ih (by omega)
    rw [earlTo_succ l (by omega)]
    unfold earlStep
    split
    · omega
    · have := List.length_filter_le (offB (tA l k) (tB l k)) (earlTo l k)
      simp; omega
theorem reaches_eq {l : List (Int × Int)} {x y : Int} {r : Bool} (h : anyB l x y = r) {v : Value} {w : World} (ht : Ts w v l) :
    Calls Try.prog 121 #[v, tv x y, .func (.func 68) #[] #[]] w fun e w' => e = .returned (.bool r) ∧ Below w.heap.size w w' := by
  rw [← h]; exact reaches_any v l x y w ht

set_option maxHeartbeats 8000000 in
theorem earliest_any (v : Value) (l : List (Int × Int)) (w : World) (h : Ts w v l) :
    Calls Try.prog 125 #[v, .func (.func 68) #[] #[]] w fun e w' => ∃ o : Value, e = .returned o ∧ Own w' w.heap.size o (earlTo l l.length) ∧ Below w.heap.size w w' := by
  obtain ⟨i0, hi, hz0, hz1, hz2⟩ := info_parts infoT
  obtain ⟨a, cap, rfl, hc, hm, hn, hcells⟩ := h
  unfold maxLen at hm
  have HC := (show Hid _ from hcells)
  clear hcells
  have hf0 : Fk (w.alloc (.cells #[.func (.func 68) #[] #[]] 56)) w.heap.size := heap_alloc_new w _
  have hb01 : Below w.heap.size w (w.alloc (.cells #[.func (.func 68) #[] #[]] 56)) := bAlloc (Below.refl _ _) _
  have hsz1 : (w.alloc (.cells #[.func (.func 68) #[] #[]] 56)).heap.size = w.heap.size + 1 := by simp
  go_enter Try.func125, Try.ntmps125
  go_wp2_with fail
  generalize w.alloc (.cells #[.func (.func 68) #[] #[]] 56) = w1 at *
  go_loopw [5, 10] (fun o b wr => ∃ k : Nat, k ≤ l.length ∧ b = .int .i64 k ∧ Own wr w1.heap.size o (earlTo l k) ∧ Below w1.heap.size w1 wr) (fun _ b _ => l.length - (intOf b).toNat)
  case atStart => exact ⟨0, by omega, rfl, ⟨rfl, .inl ⟨rfl, rfl⟩⟩, Below.refl _ _⟩
  case round =>
    obtain ⟨k, hk, rfl, hown, hb⟩ := hrel
    have HO := (show Hid _ from hown)
    have hlen := earlTo_len l k hk
    have hfr := hf0.keep hb
    have hszr := hb.size
    by_cases hlt : k < l.length
    · obtain ⟨g, off, rfl, hg, c0, c1⟩ := HC.out k hlt
      have d0 := cell_below hb (cell_below hb01 c0)
      have d1 := cell_below hb (cell_below hb01 c1)
      have HS : Hid (earlTo l (k + 1) = earlStep (earlTo l k) (tA l k, tB l k)) := earlTo_succ l hlt
      clear c0 c1 hown
      generalize earlTo l k = l1 at *
      generalize tA l k = X at *
      generalize tB l k = Y at *
      have hbx : Below wr.heap.size wr (wr.alloc (.cells #[.int .i64 X, .int .i64 Y] 31)) := bAlloc (Below.refl _ _) _
      have bv := Bk.new (w := wr) #[.int .i64 X, .int .i64 Y] 31 rfl
      have hfx := (hfr.keep hbx).cell
      have tsx := Own.ts (own_keep HO.out hbx) (by omega)
      cases hany : anyB l1 X Y
      · have HZ : Hid (earlTo l (k + 1) = l1.filter (offB X Y) ++ [(X, Y)]) := by show _ = _; rw [HS.out]; unfold earlStep; rw [if_neg (by rw [hany]; simp)]
        have hfl := List.length_filter_le (offB X Y) l1
        have hobl := own_lt HO.out
        go_wp2_with fail
        refine (reaches_eq hany tsx).mono ?_
        rintro e w2 ⟨rfl, hb2⟩
        have hb3 := bStep hbx hb2
        have bv2 := bv.keep hb2
        have hs2 := hb3.size
        have hf2 := hfr.keep hb3
        have hb4 := bStep hb hb3
        have o2 := own_keep HO.out hb3
        clear hbx hb2 bv tsx hfx d0 d1 HO
        go_wp2_with fail
        refine (deleteO_any o2 (by omega) hf2 bv2 (by omega) (by omega) hobl).mono ?_
        rintro e w3 ⟨o3, rfl, OW, bv3, hb5⟩
        have hbw := hb4.trans hb5
        have hs3 := hbw.size
        obtain ⟨v0, v1, _, _⟩ := bv3.two
        clear hb5 bv2 hf2 o2
        generalize l1.filter (offB X Y) = l3 at *
        go_wp2_with (at_builtin; refine wpList_append_lies _ rfl _ _ 37 rfl w1.heap.size 31 i0 (.agg #[.int .i64 0, .int .i64 0]) 2 16 Try.underlying37 hi hz0 hz1 hz2 rfl (by decide) _ _ _ rfl (OW.alloc _) ⟨w3.heap.size, 0, none⟩ 1 1 [.int .i64 X, .int .i64 Y] rfl rfl (news2 _ _ _ _) (ones2 _ _) (by omega) (by unfold maxLen; omega) (by omega) (by simp; omega) (w3.heap.size + 1) (by simp) ?_; intro g3 cap3 w4 hown3 hgrow hat hlg)
        have hb6 : Below w1.heap.size w1 w4 := (bAlloc hbw _).grown hgrow (by simp; omega) (own_base OW)
        go_roundw
        case rel =>
          refine ⟨k + 1, by omega, by go_num, ?_, hb6⟩
          rw [HZ.out]
          show w4.ownsRow _ _ _ _ _ _
          rw [cellsL_snoc]; simpa using hown3
        case measure => simp [intOf]; omega
      · have HZ : Hid (earlTo l (k + 1) = l1) := by show _ = _; rw [HS.out]; unfold earlStep; rw [if_pos hany]
        go_wp2_with fail
        refine (reaches_eq hany tsx).mono ?_
        rintro e w2 ⟨rfl, hb2⟩
        have hb3 := bStep hbx hb2
        have hb4 := bStep hb hb3
        clear hbx hb2 bv tsx
        go_wp2_with fail
        go_roundw
        case rel => exact ⟨k + 1, by omega, by go_num, by rw [HZ.out]; exact own_keep HO.out hb3, hb4⟩
        case measure => simp [intOf]; omega
    · obtain rfl : k = l.length := by omega
      go_wp2_with fail
      go_ret
      exact ⟨_, rfl, own_less HO.out (by omega), hb01.trans (Bx.bel (g := w.heap.size) (Bx.of_below hb) (by omega) (by omega))⟩
end Go.Proofs.Ytbmdfmboabfceaa
