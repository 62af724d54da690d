/- What the clearing out of a list of times by a function that is handed on answers: contracts. -/
import Derived.Test.YtbmdfmboabfceaaFr3
import Derived.Test.YtbmdfmboabfceaaFr7
import Derived.Test.YtbmdfmboabfceaaFr8
import Derived.Lib.SliceRun
namespace Go.Proofs.Ytbmdfmboabfceaa
open Go.RowKit

set_option maxHeartbeats 1000000 in
theorem closD_any (a b x y : Int) (bn bx : Nat) (w : World) (hf : Fk w bn) (hx : Bk w bx #[.int .i64 x, .int .i64 y] 31) :
    Calls Try.prog 171 #[tv a b, .pointer (some ⟨bn, 0, none⟩), .pointer (some ⟨bx, 0, none⟩)] w fun e w' => e = .returned (.bool (leB x y a b)) ∧ Below w.heap.size w w' := by
  have c0 := hf.cell
  obtain ⟨x0, x1, _, _⟩ := hx.two
  have l0 := lt_of_block hf
  have l1 := hx.lt
  go_enter Try.func171, Try.ntmps171
  go_wp2_with (go_at_call 68; refine (implLess_any _ _ _ _ _).mono ?_; rintro e w' ⟨rfl, hb⟩)
  go_ret
  refine ⟨rfl, ?_⟩
  repeat' (first | (with_reducible exact Below.refl _ _) | (with_reducible assumption) | (with_reducible refine bStep ?_ (by with_reducible assumption)) | (with_reducible refine bAlloc ?_ _) | (with_reducible refine Below.drew ?_) | (with_reducible refine bDrewN ?_ _) | (with_reducible refine Below.setCell ?_ ?_ _) | (simp; done) | (simp; omega) | omega)
theorem closD_eq {a b x y : Int} {r : Bool} (h : leB x y a b = r) {bn bx : Nat} {w : World} (hf : Fk w bn) (hx : Bk w bx #[.int .i64 x, .int .i64 y] 31) :
    Calls Try.prog 171 #[tv a b, .pointer (some ⟨bn, 0, none⟩), .pointer (some ⟨bx, 0, none⟩)] w fun e w' => e = .returned (.bool r) ∧ Below w.heap.size w w' := by
  rw [← h]; exact closD_any a b x y bn bx w hf hx

set_option maxHeartbeats 2000000 in
theorem indexD_any (v : Value) (l : List (Int × Int)) (x y : Int) (bn bx : Nat) (w : World) (h : Ts w v l) (hf : Fk w bn) (hx : Bk w bx #[.int .i64 x, .int .i64 y] 31) :
    Calls Try.prog 188 #[v, .func (.func 171) #[] #[.pointer (some ⟨bn, 0, none⟩), .pointer (some ⟨bx, 0, none⟩)]] w fun e w' => ∃ r : Int, e = .returned (.int .i64 r) ∧ IsFirst (fun i => leB x y (tA l i) (tB l i)) l.length r ∧ Below w.heap.size w w' := by
  obtain ⟨a, cap, rfl, hc, hm, hn, hcells⟩ := h
  unfold maxLen at hm
  have HC := (show Hid _ from hcells)
  clear hcells
  go_enter Try.func188, Try.ntmps188
  go_wp2_with fail
  go_loopw [8] (fun i wr => ∃ k : Nat, k ≤ l.length ∧ i = .int .i64 k ∧ (∀ j, j < k → leB x y (tA l j) (tB l j) = false) ∧ Below w.heap.size w wr) (fun i _ => l.length - (intOf i).toNat)
  case atStart => exact ⟨0, by omega, rfl, fun j hj => by omega, Below.refl _ _⟩
  case round =>
    obtain ⟨k, hk, rfl, hall, hb⟩ := hrel
    have HA := (show Hid _ from hall)
    clear hall
    by_cases hlt : k < l.length
    · obtain ⟨g, off, rfl, hg, c0, c1⟩ := HC.out k hlt
      have d0 := cell_below hb c0
      have d1 := cell_below hb c1
      clear c0 c1
      generalize hX : tA l k = X at *
      generalize hY : tB l k = Y at *
      have EX : Hid (tA l k = X) := hX
      have EY : Hid (tB l k = Y) := hY
      clear hX hY
      have hf2 := hf.keep hb
      have hx2 := hx.keep hb
      cases hp : leB x y X Y
      · have HK : Hid (leB x y (tA l k) (tB l k) = false) := by show _ = false; rw [EX.out, EY.out]; exact hp
        go_wp2_with fail
        refine (closD_eq hp hf2 hx2).mono ?_
        rintro e w1 ⟨rfl, hb1⟩
        have hbw := bStep hb hb1
        go_wp2_with fail
        go_roundw
        case rel =>
          refine ⟨k + 1, by omega, by go_num, fun j hj => ?_, hbw⟩
          by_cases e : j = k
          · subst e; exact HK.out
          · exact HA.out j (by omega)
        case measure => simp [intOf]; omega
      · have HK : Hid (leB x y (tA l k) (tB l k) = true) := by show _ = true; rw [EX.out, EY.out]; exact hp
        go_wp2_with fail
        refine (closD_eq hp hf2 hx2).mono ?_
        rintro e w1 ⟨rfl, hb1⟩
        have hbw := bStep hb hb1
        go_wp2_with fail
        go_ret
        exact ⟨_, rfl, .inr ⟨k, rfl, hlt, HK.out, HA.out⟩, hbw⟩
    · go_wp2_with fail
      go_ret
      exact ⟨_, rfl, .inl ⟨rfl, fun i hi => HA.out i (by omega)⟩, hb⟩


/-! ### Rows that are written into. -/
theorem take_of_fill {c : Array Value} {F : List (Int × Int)} (h : Fill c F F.length) : c.toList.take (F.length * 2) = cellsL F := by
  apply List.ext_getElem?
  intro i
  by_cases hi : i < F.length * 2
  · rw [List.getElem?_take, if_pos hi, Array.getElem?_toList]
    rcases Nat.mod_two_eq_zero_or_one i with e | e
    · obtain ⟨q, rfl⟩ : ∃ q, i = q * 2 := ⟨i / 2, by omega⟩
      rw [(h q (by omega)).1, (cellsL_get F q (by omega)).1]
    · obtain ⟨q, rfl⟩ : ∃ q, i = q * 2 + 1 := ⟨i / 2, by omega⟩
      rw [(h q (by omega)).2, (cellsL_get F q (by omega)).2]
  · rw [List.getElem?_take, if_neg hi, List.getElem?_eq_none (by rw [cellsL_length]; omega)]
theorem own_of_fill {w : World} {B g cap : Nat} {c : Array Value} {F : List (Int × Int)} (h : Bk w g c 31) (hf : Fill c F F.length) (hs : c.size = cap * 2) (hc : F.length ≤ cap) (hm : cap ≤ maxLen) (hg : B ≤ g) :
    Own w B (.slice (some ⟨g, 0, none⟩) F.length cap) F :=
  ⟨cellsL_length F, .inr ⟨g, cap, c, rfl, hg, h, hc, hm, hs, take_of_fill hf⟩⟩
/-- An owned row: nil, or a block of its own. -/
theorem own_open {w : World} {B : Nat} {v : Value} {l : List (Int × Int)} (h : Own w B v l) : (v = .slice none 0 0 ∧ l = []) ∨
    ∃ g cap c, v = .slice (some ⟨g, 0, none⟩) l.length cap ∧ B ≤ g ∧ Bk w g c 31 ∧ c.size = cap * 2 ∧ l.length ≤ cap ∧ cap ≤ maxLen ∧ Fill c l l.length := by
  obtain ⟨h1, ⟨rfl, h2⟩ | ⟨g, cap, cur, rfl, hg, hh, hc, hm, hs, ht⟩⟩ := h
  · exact .inl ⟨rfl, List.eq_nil_of_length_eq_zero h2⟩
  · refine .inr ⟨g, cap, cur, rfl, hg, hh, hs, hc, hm, fun i hi => ?_⟩
    have e : ∀ j, j < l.length * 2 → cur[j]? = (cellsL l)[j]? := by
      intro j hj
      rw [← ht, List.getElem?_take, if_pos hj, Array.getElem?_toList]
    rw [e _ (by omega), e _ (by omega)]
    exact cellsL_get l i hi
theorem Bk.setCells {g : Nat} {t : TypeId} (vs : List Value) : ∀ {w : World} {c : Array Value} (o : Nat), Bk w g c t → ∃ c' : Array Value, Bk (w.setCells g o vs) g c' t ∧ c'.size = c.size ∧ (∀ i, i < o → c'[i]? = c[i]?) ∧ Bx g w (w.setCells g o vs) := by
  induction vs with
  | nil => exact fun o h => ⟨_, h, rfl, fun _ _ => rfl, Bx.refl _ _⟩
  | cons v r ih =>
    intro w c o h
    obtain ⟨c', h1, h2, h3, h4⟩ := ih (o + 1) (h.set o v)
    refine ⟨c', h1, by rw [h2]; simp, fun i hi => ?_, (Bx.setG (Bx.refl g w) rfl v).trans h4⟩
    rw [h3 i (by omega), Array.getElem?_setIfInBounds, if_neg (by omega)]
/-- 'clear' of a part of a row of times. -/
theorem clear_times {w : World} {g i n cap : Nat} {c : Array Value} (h : Bk w g c 31) (hs : c.size = cap * 2) (hi : i < n) (hn : n ≤ cap) (c0 : Nat) :
    ∃ w' c', (∀ ty, (Builtin.clear_ #[37] ty #[.slice (some ⟨g, i * 2, none⟩) (n - i) c0]).run Try.prog w = .ok (.tuple #[]) w') ∧ Bk w' g c' 31 ∧ c'.size = c.size ∧ (∀ j, j < i * 2 → c'[j]? = c[j]?) ∧ Bx g w w' := by
  have hv : ∀ w, (zeroValue 31).run Try.prog w = .ok (.agg #[.int .i64 0, .int .i64 0]) w := fun w => Try.zeroValue31 w
  have hcs : (Value.agg #[.int .i64 0, .int .i64 0]).cells = #[.int .i64 0, .int .i64 0] := by simp [Value.cells]
  obtain ⟨c', h1, h2, h3, h4⟩ := h.setCells (Builtin.zeroCells (Value.agg #[.int .i64 0, .int .i64 0]).cells (n - i)).toList (i * 2)
  refine ⟨_, c', fun ty => ?_, h1, h2, h3, h4⟩
  have hlen : (Builtin.zeroCells (Value.agg #[.int .i64 0, .int .i64 0]).cells (n - i)).toList.length = (n - i) * 2 := by simp [Builtin.zeroCells, hcs]
  have hst := run_storeCells_cells (P := Try.prog) g (i * 2) (Builtin.zeroCells (Value.agg #[.int .i64 0, .int .i64 0]).cells (n - i)).toList 0 w
    (fun j hj => by rw [hlen] at hj; rw [Nat.add_zero, h.cell (Array.getElem?_eq_getElem (show i * 2 + j < c.size by omega))]; rfl) (fun j _ => h.free _)
    (fun v hv => by
      rw [hcs] at hv
      simp [Builtin.zeroCells] at hv
      obtain ⟨a, _, rfl⟩ := hv
      rcases Nat.mod_two_eq_zero_or_one a with e | e <;> simp [e] <;> rfl)
  simp only [Nat.add_zero] at hst
  obtain ⟨m, hm⟩ : ∃ m, n - i = m + 1 := ⟨n - i - 1, by omega⟩
  rw [hm] at hst ⊢
  simp [Builtin.clear_, run_underlying Try.underlying37, hv, hst]
theorem slice_from (g i n cap : Nat) (hi : i < n) (hn : n ≤ cap) (u : World) : (Instr.slice 37 (.slice (some ⟨g, 0, none⟩) n cap) (some (.int .i64 i)) Option.none Option.none).run Try.prog u = .ok (.slice (some ⟨g, i * 2, none⟩) (n - i) (cap - i)) u := by
  have ht : Try.prog.underlying 37 = some (.slice (Try.prog.elem 37)) := by kernel_rfl
  have hs : ∀ u : World, (sizeOf (Try.prog.elem 37)).run Try.prog u = .ok 2 u := fun u => by kernel_rfl
  rw [run_slice_l (P := Try.prog) u 37 _ _ _ ht .i64 i (by omega) (by omega), hs u]
  have hne : ¬ cap = i := by omega
  simp [Result.andThen, sliced, Addr.add, hne]; omega
theorem slice_upto (g i n cap : Nat) (hi : i ≤ n) (hn : n ≤ cap) (u : World) : (Instr.slice 37 (.slice (some ⟨g, 0, none⟩) n cap) Option.none (some (.int .i64 i)) Option.none).run Try.prog u = .ok (.slice (some ⟨g, 0, none⟩) i cap) u := by
  have ht : Try.prog.underlying 37 = some (.slice (Try.prog.elem 37)) := by kernel_rfl
  have hs : ∀ u : World, (sizeOf (Try.prog.elem 37)).run Try.prog u = .ok 2 u := fun u => by kernel_rfl
  rw [run_slice_h (P := Try.prog) u 37 _ _ _ ht .i64 i (by omega) (by omega), hs u]
  simp [Result.andThen, sliced, Addr.add]
end Go.Proofs.Ytbmdfmboabfceaa
