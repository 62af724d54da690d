/- How a text is cut into words, by the model: the contract. -/
import Derived.Test.YtfofchgcbdbikaaDoorLq0
namespace Go.Proofs.YtfofchgcbdbikaaDoor
open Go.RowKit Go.Shelf

theorem baS_ext {s : By} {i j : Nat} : (baS s).extract i j = baS ((s.take j).drop i) := by
  apply ByteArray.ext
  apply Array.ext'
  simp [baS, ByteArray.data_extract, List.extract_eq_take_drop, List.drop_take]
theorem sub_run {s : By} {i j : Nat} (h : i ≤ j) (hj : j ≤ s.length) (w : World) : (Instr.slice 9 (.string (baS s)) (some (.int .i64 (i : Int))) (some (.int .i64 (j : Int))) none).run Tryd.prog w = .ok (.string (baS ((s.take j).drop i))) w := by
  rw [run_slice_string w 9 (baS s) .i64 .i64 (i : Int) (j : Int) Tryd.underlying9 (by omega) (by omega) (by rw [baS_size]; omega)]
  simp only [Int.toNat_natCast, baS_ext]
theorem from_run {s : By} {i : Nat} (h : i ≤ s.length) (w : World) : (Instr.slice 9 (.string (baS s)) (some (.int .i64 (i : Int))) none none).run Tryd.prog w = .ok (.string (baS (s.drop i))) w := by
  rw [run_slice_string_from_if w 9 (baS s) .i64 (i : Int) Tryd.underlying9, if_pos ⟨by omega, by rw [baS_size]; omega⟩]
  simp only [Int.toNat_natCast, baS_ext, baS_size, List.take_length]
theorem infoS : (Tryd.prog.info? 9).map (fun i => (i.zero, i.size, i.bytes)) = some (some (.string ByteArray.empty), 1, 16) := by kernel_rfl
abbrev wsC (l : List By) : List Value := l.map fun x => .string (baS x)
section
variable {ops : Array Oper} {rest : List Oper} {o : Oper} {a : Act} {Q : Exit → Act → World → Prop}
theorem appS (w : World) (hgd : o.guard = none) (s x : Operand) (ho : o.op = .call { callee := .builtin .append, args := #[s, x], argTypes := #[56, 56] })
    (base : Nat) (v : Value) (ps : List By) (hs : a.eval s = v) (hown : w.ownsRow base 9 1 v ps.length (wsC ps)) (g0 : Nat) (b : By) (hx : a.eval x = .slice (some ⟨g0, 0, none⟩) 1 1)
    (hc : Bk w g0 #[.string (baS b)] 9) (hl : ps.length ≤ 2000000) (hbase : base ≤ w.heap.size)
    (h : ∀ g cap w', w'.ownsRow base 9 1 (.slice (some ⟨g, 0, none⟩) (ps.length + 1) cap) (ps.length + 1) (wsC (ps ++ [b])) → w.grownBy w' v.ownBlock → (v.ownBlock = some g ∨ g = w.heap.size) → g < w'.heap.size → wpList Tryd.prog ops Q rest (a.put o.dst (.slice (some ⟨g, 0, none⟩) (ps.length + 1) cap)) w') :
    wpList Tryd.prog ops Q (o :: rest) a w := by
  obtain ⟨i0, hi, hz0, hz1, hz2⟩ := pl_info infoS
  refine wpList_append_lies w hgd s x 56 ho base 9 i0 _ 1 16 Tryd.underlying56 hi hz0 hz1 hz2 rfl (by decide) v ps.length (wsC ps) hs hown ⟨g0, 0, none⟩ 1 1 [.string (baS b)] hx rfl (fun j u hj => ?_) (fun u hu => by simp at hu; rcases hu with rfl; rfl) (by omega) (by unfold maxLen; omega) (by omega) hbase w.heap.size rfl ?_
  · have hj0 : j = 0 := by have := (List.getElem?_eq_some_iff.1 hj).1; simp at this; omega
    subst hj0
    have e : (⟨g0, 0, none⟩ : Addr).add 0 = ⟨g0, 0, none⟩ := by simp [Addr.add]
    rw [e]
    exact hc.at (by simpa using hj)
  intro g cap w' h1 h2 h3 h4
  refine h g cap w' ?_ h2 h3 h4
  show w'.ownsRow _ _ _ _ _ (wsC _)
  simp only [wsC, List.map_append] at h1 ⊢
  simpa using h1
end
theorem own_wss {w : World} {B : Nat} {v : Value} {l : List By} (h : w.ownsRow B 9 1 v l.length (wsC l)) (hl : l ≠ []) : Wss w v l := by
  have hh := h
  have hp := List.length_pos_iff.2 hl
  obtain ⟨_, ⟨_, h0⟩ | ⟨g, cap, cur, rfl, hg, h1, h2, h3, _⟩⟩ := h
  · omega
  · refine ⟨_, _, rfl, h2, h3, .inr ⟨g, 0, rfl, fun i x hx => ?_⟩⟩
    have hi := (List.getElem?_eq_some_iff.1 hx).1
    rw [Nat.zero_add, hh.cellAt i (by omega)]
    simp [wsC, hx]
/-- The words that are cut off so far, and from where the next goes. -/
theorem cut_word {s : By} {f i : Nat} (hfi : f ≤ i) (hi : i < s.length) (hc : s[i]? = some 32) (hno : (32 : UInt8) ∉ (s.take i).drop f) : splitB 32 (s.drop f) = (s.take i).drop f :: splitB 32 (s.drop (i + 1)) := by
  obtain ⟨hi', hx⟩ := List.getElem?_eq_some_iff.1 hc
  rw [← split_app hno]
  congr 1
  have e1 : s = s.take i ++ s.drop i := (List.take_append_drop i s).symm
  have e2 : s.drop i = 32 :: s.drop (i + 1) := by rw [List.drop_eq_getElem_cons hi, hx]
  conv => lhs; rw [e1, List.drop_append_of_le_length (by simp; omega), e2]
theorem no_more {s : By} {f i : Nat} {y : UInt8} (hfi : f ≤ i) (hy : s[i]? = some y) (h : y ≠ 32) (hno : (32 : UInt8) ∉ (s.take i).drop f) : (32 : UInt8) ∉ (s.take (i + 1)).drop f := by
  obtain ⟨hi, hx⟩ := List.getElem?_eq_some_iff.1 hy
  rw [List.take_add_one, hy, Option.toList_some, List.drop_append_of_le_length (by simp; omega)]
  simp only [List.mem_append, List.mem_singleton, not_or]
  exact ⟨hno, fun e => h e.symm⟩
/-- Between two rounds. -/
structure SpI (s : By) (w : World) (sl : Value) (f i : Nat) (wr : World) : Prop where
  le : f ≤ i ∧ i ≤ s.length
  ps : ∃ ps : List By, splitB 32 s = ps ++ splitB 32 (s.drop f) ∧ ps.length ≤ i ∧ wr.ownsRow w.heap.size 9 1 sl ps.length (wsC ps)
  no : (32 : UInt8) ∉ (s.take i).drop f
  bel : Below w.heap.size w wr
set_option maxRecDepth 100000 in
set_option maxHeartbeats 4000000 in
theorem l41Split_any (s : By) (hl : s.length ≤ 100000) (w : World) : Calls Tryd.prog 33 #[.string (baS s), .int .u8 32] w fun e w' => ∃ v, e = .returned v ∧ Wss w' v (splitB 32 s) ∧ Below w.heap.size w w' := by
  have hsz := baS_size s
  have HS : Hid (∀ i : Nat, i < s.length → ∃ y, s[i]? = some y) := fun i hi => ⟨_, List.getElem?_eq_some_iff.2 ⟨hi, rfl⟩⟩
  go_enter Tryd.func33, Tryd.ntmps33
  go_wp2_with fail
  have hb0 : Below w.heap.size w (w.alloc (.cells #[] 9)) := bAlloc (Below.refl _ _) _
  have ho0 : (w.alloc (.cells #[] 9)).ownsRow w.heap.size 9 1 (.slice (some ⟨w.heap.size, 0, none⟩) 0 0) 0 (wsC []) := World.ownsRow_lit w #[] 0 (Nat.le_refl _) (by decide) rfl
  go_loopw [5, 6, 7] (fun sl fv iv wr => ∃ f i : Nat, fv = .int .i64 f ∧ iv = .int .i64 i ∧ SpI s w sl f i wr) (fun _ _ iv _ => s.length - (intOf iv).toNat)
  case atStart => exact ⟨0, 0, rfl, rfl, ⟨by omega, ⟨[], by simp, by simp, ho0⟩, by simp, hb0⟩⟩
  case round =>
    clear hb0 ho0
    obtain ⟨f, i, rfl, rfl, ⟨hfi, hil⟩, ⟨ps, hps, hpl, hown⟩, hno, hb⟩ := hrel
    have HP := (show Hid _ from hps)
    have HN := (show Hid _ from hno)
    have HO := (show Hid _ from hown)
    have hsw := hb.size
    clear hps hno hown
    by_cases hlt : i < s.length
    · have ik : (i : Int) < (s.length : Int) := by omega
      obtain ⟨y, hy⟩ := HS.out i hlt
      have hidx := fun w => idx_run hy w
      have HY := (show Hid (s[i]? = some y) from hy)
      clear hy
      by_cases hc : y = 32
      · have hc2 : ((y.toNat : Int) == 32) = true := by rw [hc]; rfl
        have hsub := fun w => sub_run hfi hil w
        have bn : Bk (wr.alloc (.cells #[.string (baS ((s.take i).drop f))] 9)) wr.heap.size #[.string (baS ((s.take i).drop f))] 9 := Bk.new _ _ rfl
        have hbx := bAlloc hb (.cells #[.string (baS ((s.take i).drop f))] 9)
        have HO8 : Hid (World.ownsRow _ w.heap.size 9 1 u5 ps.length (wsC ps)) := pl_own_move HO.out fun x _ hx => (bAlloc (Below.refl wr.heap.size wr) (.cells #[.string (baS ((s.take i).drop f))] 9)).block x hx
        have HC := (show Hid (y = 32) from hc)
        clear hc
        go_wp2_with (at_builtin; go_must (refine appS _ rfl _ _ rfl w.heap.size _ ps rfl HO8.out _ _ rfl bn (by omega) (by simp; omega) ?_); intro g9 cap9 w9 own9 hg9 hor9 hlg)
        have hb9 : Below w.heap.size w w9 := hbx.grown hg9 hbx.size (fun x e => (HO8.out.lt _ e).1)
        go_roundw
        case rel =>
          refine ⟨i + 1, i + 1, by go_num, by go_num, ⟨by omega, by omega⟩, ⟨ps ++ [(s.take i).drop f], ?_, ?_, ?_⟩, ?_, hb9⟩
          · rw [HP.out, cut_word hfi hlt (by rw [HY.out, HC.out]) HN.out]; simp
          · simp; omega
          · simpa using own9
          · simp
        case measure => simp [intOf]; omega
      · have hc2 : ((y.toNat : Int) == 32) = false := by
          have : (y.toNat : Int) ≠ 32 := fun h => hc (UInt8.toNat_inj.1 (by show y.toNat = 32; omega))
          simpa using this
        have HC := (show Hid (y ≠ 32) from hc)
        clear hc
        go_wp2_with fail
        go_roundw
        case rel => exact ⟨f, i + 1, rfl, by go_num, ⟨by omega, by omega⟩, ⟨ps, HP.out, by omega, HO.out⟩, no_more hfi HY.out HC.out HN.out, hb⟩
        case measure => simp [intOf]; omega
    · have hie : i = s.length := by omega
      have ik : ¬ ((i : Int) < (s.length : Int)) := by omega
      have hfs : f ≤ s.length := by omega
      have hfr := fun w => from_run hfs w
      have bn : Bk (wr.alloc (.cells #[.string (baS (s.drop f))] 9)) wr.heap.size #[.string (baS (s.drop f))] 9 := Bk.new _ _ rfl
      have hbx := bAlloc hb (.cells #[.string (baS (s.drop f))] 9)
      have HO8 : Hid (World.ownsRow _ w.heap.size 9 1 u5 ps.length (wsC ps)) := pl_own_move HO.out fun x _ hx => (bAlloc (Below.refl wr.heap.size wr) (.cells #[.string (baS (s.drop f))] 9)).block x hx
      go_wp2_with (at_builtin; go_must (refine appS _ rfl _ _ rfl w.heap.size _ ps rfl HO8.out _ _ rfl bn (by omega) (by simp; omega) ?_); intro g9 cap9 w9 own9 hg9 hor9 hlg)
      have hb9 : Below w.heap.size w w9 := hbx.grown hg9 hbx.size (fun x e => (HO8.out.lt _ e).1)
      have hn := HN.out
      rw [hie, List.take_length] at hn
      have hsp : splitB 32 s = ps ++ [s.drop f] := by rw [HP.out, split_word hn]
      go_ret
      refine ⟨_, rfl, ?_, hb9⟩
      rw [hsp]
      exact own_wss (B := w.heap.size) (by simpa using own9) (by simp)
end Go.Proofs.YtfofchgcbdbikaaDoor
