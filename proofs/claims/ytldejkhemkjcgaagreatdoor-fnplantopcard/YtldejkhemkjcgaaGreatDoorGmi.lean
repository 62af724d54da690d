import Derived.Test.YtldejkhemkjcgaaGreatDoorGpm
import Derived.Test.YtldejkhemkjcgaaGreatDoorGpa
import Derived.Test.YtldejkhemkjcgaaGreatDoorGlk
import Derived.Test.YtldejkhemkjcgaaGreatDoorGf2
import Derived.Test.YtldejkhemkjcgaaGreatDoorGt7
import Derived.Test.YtldejkhemkjcgaaGreatDoorGtX
import Derived.Test.YtldejkhemkjcgaaGreatDoorGj4
import Derived.Test.YtldejkhemkjcgaaGreatDoorGj1
import Derived.Test.YtldejkhemkjcgaaGreatDoorGf1
namespace Go.Proofs.YtldejkhemkjcgaaGreatDoor
open Go.RowKit Go.Shelf
set_option maxRecDepth 100000 in
set_option maxHeartbeats 8000000 in
theorem itemsMade_in {a b : List It} {n : Int} (hn : n = 0 ∨ n = 1) {w : World} {iv kv : Value} (hi : LyI w iv [a, b]) (hal : a.length ≤ 400) (hbl : b.length ≤ 400) (hkv : ∃ x m c, kv = .slice x m c) :
    Calls Tryz.prog 50 #[.iface 119 (.int .i64 n), iv, kv] w fun e w' => ∃ o : Value, e = .returned (.tuple #[o, .nilIface]) ∧ OwnI w' w.heap.size o (if n = 0 then a else b) ∧ Below w.heap.size w w' := by
  obtain ⟨g, off, cap, ad, cp, ad', cp', rfl, hg, c0, c1, R0, R1, hcap, hmax⟩ := hi.two
  obtain ⟨x, m, c, rfl⟩ := hkv
  have ta1 := ta11 n
  rcases hn with rfl | rfl
  · have o0 : Hid (OwnI w w.heap.size (.slice none 0 0) []) := ownK_nil _ _ _ _ _
    go_enter Tryz.func50, Tryz.ntmps50
    go_wp2_with (at_builtin; refine appIs _ rfl _ _ rfl w.heap.size _ [] rfl o0.out _ a rfl R0 (by simp; omega) (by omega) ?_; intro v3 w3 own3 hg3)
    have hb3 : Below w.heap.size w w3 := Below.grew (Below.refl _ _) hg3 (by omega) (ownK_base o0.out)
    refine bodyPost_ret (v := .tuple #[_, .nilIface]) (by simp [results, Tryz.results50, go_sem]; try rfl) rfl ?_
    exact ⟨_, rfl, by simpa using own3, hb3⟩
  · have o0 : Hid (OwnI w w.heap.size (.slice none 0 0) []) := ownK_nil _ _ _ _ _
    go_enter Tryz.func50, Tryz.ntmps50
    go_wp2_with (at_builtin; refine appIs _ rfl _ _ rfl w.heap.size _ [] rfl o0.out _ b rfl R1 (by simp; omega) (by omega) ?_; intro v3 w3 own3 hg3)
    have hb3 : Below w.heap.size w w3 := Below.grew (Below.refl _ _) hg3 (by omega) (ownK_base o0.out)
    refine bodyPost_ret (v := .tuple #[_, .nilIface]) (by simp [results, Tryz.results50, go_sem]; try rfl) rfl ?_
    exact ⟨_, rfl, by simpa using own3, hb3⟩
set_option maxRecDepth 100000 in
set_option maxHeartbeats 8000000 in
theorem itemsMade_each {x : List It} {n : Int} {w : World} {iv kv : Value} (hi : ∃ x m c, iv = .slice x m c) (hk : LyI w kv [x]) :
    Calls Tryz.prog 50 #[.iface 120 (.int .i64 n), iv, kv] w fun e w' => ∃ o : Value, e = .returned (.tuple #[o, .nilIface]) ∧ OwnI w' w.heap.size o (eachS x n) ∧ Below w.heap.size w w' := by
  obtain ⟨g, off, cap, ad, cp, rfl, hg, c0, R0, hcap, hmax⟩ := hk.one
  obtain ⟨i1, i2, i3, rfl⟩ := hi
  have ta1 := ta21 n
  have ta2 := ta22 n
  go_enter Tryz.func50, Tryz.ntmps50
  go_wp2_with fail
  refine (implSetEach_any _ x n w R0).mono ?_
  rintro e w3 ⟨o3, rfl, own3, hb3⟩
  have O3 := (show Hid (OwnI w3 w.heap.size o3 (eachS x n)) from own3)
  clear own3
  go_wp2_with fail
  refine bodyPost_ret (v := .tuple #[_, .nilIface]) (by simp [results, Tryz.results50, go_sem]; try rfl) rfl ?_
  exact ⟨_, rfl, O3.out, hb3⟩
set_option maxRecDepth 100000 in
set_option maxHeartbeats 8000000 in
theorem itemsMade_less {x : List It} {n : Int} {w : World} {iv kv : Value} (hi : ∃ x m c, iv = .slice x m c) (hk : LyI w kv [x]) :
    Calls Tryz.prog 50 #[.iface 126 (.int .i64 n), iv, kv] w fun e w' => ∃ o : Value, e = .returned (.tuple #[o, .nilIface]) ∧ OwnI w' w.heap.size o (lessS x) ∧ Below w.heap.size w w' := by
  obtain ⟨g, off, cap, ad, cp, rfl, hg, c0, R0, hcap, hmax⟩ := hk.one
  obtain ⟨i1, i2, i3, rfl⟩ := hi
  have ta1 := ta41 n
  have ta2 := ta42 n
  have ta3 := ta43 n
  have ta4 := ta44 n
  go_enter Tryz.func50, Tryz.ntmps50
  go_wp2_with fail
  refine (implSetLess_any _ x w R0).mono ?_
  rintro e w3 ⟨o3, rfl, own3, hb3⟩
  have O3 := (show Hid (OwnI w3 w.heap.size o3 (lessS x)) from own3)
  clear own3
  go_wp2_with fail
  refine bodyPost_ret (v := .tuple #[_, .nilIface]) (by simp [results, Tryz.results50, go_sem]; try rfl) rfl ?_
  exact ⟨_, rfl, O3.out, hb3⟩
set_option maxRecDepth 100000 in
set_option maxHeartbeats 8000000 in
theorem itemsMade_both {x y : List It} {n : Int} {w : World} {iv kv : Value} (hi : ∃ x m c, iv = .slice x m c) (hk : LyI w kv [x, y]) :
    Calls Tryz.prog 50 #[.iface 125 (.int .i64 n), iv, kv] w fun e w' => ∃ o : Value, e = .returned (.tuple #[o, .nilIface]) ∧ OwnI w' w.heap.size o (bothS x y) ∧ Below w.heap.size w w' := by
  obtain ⟨g, off, cap, ad, cp, ad', cp', rfl, hg, c0, c1, R0, R1, hcap, hmax⟩ := hk.two
  obtain ⟨i1, i2, i3, rfl⟩ := hi
  have HX : Hid (∀ W, Below w.heap.size w W → W.cell? ⟨g, off, none⟩ = some (.slice ad x.length cp) ∧ W.cell? ⟨g, off + 1, none⟩ = some (.slice ad' y.length cp')) := fun W hb => ⟨cell_below hb c0, cell_below hb c1⟩
  have hcur : Below w.heap.size w w.drew := (Below.refl _ _).drew
  have rD := R0.keep hcur
  have rD' := R1.keep hcur
  have ta1 := ta31 n
  have ta2 := ta32 n
  have ta3 := ta33 n
  clear R0 R1
  go_enter Tryz.func50, Tryz.ntmps50
  go_wp2_with fail
  go_region_held3 (fun W => W.cell? ⟨g, off, none⟩ = some (.slice ad x.length cp) ∧ W.cell? ⟨g, off + 1, none⟩ = some (.slice ad' y.length cp'))
    (first | exact HX.out _ hcur | exact HX.out _ hc3)
    (first
      | (go_at_call 96; with_reducible refine (implSetBoth_any _ _ x y _ rD rD').mono ?_; rintro e w3 ⟨o3, rfl, own3, hb3⟩; have hc3 : Below w.heap.size w w3 := bStep hcur hb3))
  all_goals
    have hs := hcur.size
    have O3 := (show Hid (OwnI w3 w.drew.heap.size o3 (bothS x y)) from own3)
    clear own3
    go_wp2_with fail
    refine bodyPost_ret (v := .tuple #[_, .nilIface]) (by simp [results, Tryz.results50, go_sem]; try rfl) rfl ?_
    exact ⟨_, rfl, own_less O3.out hs, hc3⟩
set_option maxRecDepth 100000 in
set_option maxHeartbeats 8000000 in
theorem itemsMade_join {x y : List It} {n : Int} (hx : sokB x = true) (hy : sokB y = true) (hax : absum x ≤ 1200000) (hay : absum y ≤ 1200000) {w : World} {iv kv : Value} (hi : ∃ x m c, iv = .slice x m c) (hk : LyI w kv [x, y]) :
    Calls Tryz.prog 50 #[.iface 127 (.int .i64 n), iv, kv] w fun e w' => ∃ o : Value, e = .returned (.tuple #[o, .nilIface]) ∧ OwnI w' w.heap.size o (sumL ltT (pairT x y)) ∧ Below w.heap.size w w' := by
  obtain ⟨g, off, cap, ad, cp, ad', cp', rfl, hg, c0, c1, R0, R1, hcap, hmax⟩ := hk.two
  obtain ⟨i1, i2, i3, rfl⟩ := hi
  have HX : Hid (∀ W, Below w.heap.size w W → W.cell? ⟨g, off, none⟩ = some (.slice ad x.length cp) ∧ W.cell? ⟨g, off + 1, none⟩ = some (.slice ad' y.length cp')) := fun W hb => ⟨cell_below hb c0, cell_below hb c1⟩
  have hcur : Below w.heap.size w w.drew := (Below.refl _ _).drew
  have rD := R0.keep hcur
  have rD' := R1.keep hcur
  have ta1 := ta51 n
  have ta2 := ta52 n
  have ta3 := ta53 n
  have ta4 := ta54 n
  have ta5 := ta55 n
  clear R0 R1
  go_enter Tryz.func50, Tryz.ntmps50
  go_wp2_with fail
  go_region_held3 (fun W => W.cell? ⟨g, off, none⟩ = some (.slice ad x.length cp) ∧ W.cell? ⟨g, off + 1, none⟩ = some (.slice ad' y.length cp'))
    (first | exact HX.out _ hcur | exact HX.out _ hc3)
    (first
      | (go_at_call 98; with_reducible refine (pairItems_few _ _ x y _ rD rD' hx hy hax hay).mono ?_; rintro e w3 ⟨o3, rfl, own3, hb3⟩; have hc3 : Below w.heap.size w w3 := bStep hcur hb3))
  all_goals
    have hs := hcur.size
    have O3 := (show Hid (OwnI w3 w.drew.heap.size o3 (sumL ltT (pairT x y))) from own3)
    clear own3
    go_wp2_with fail
    refine bodyPost_ret (v := .tuple #[_, .nilIface]) (by simp [results, Tryz.results50, go_sem]; try rfl) rfl ?_
    exact ⟨_, rfl, own_less O3.out hs, hc3⟩
set_option maxRecDepth 100000 in
set_option maxHeartbeats 8000000 in
theorem itemsMade_sum {x : List It} {n : Int} (hn : inB n 1 3 = true) {w : World} {iv kv : Value} (hi : ∃ x m c, iv = .slice x m c) (hk : LyI w kv [x]) :
    Calls Tryz.prog 50 #[.iface 128 (.int .i64 n), iv, kv] w fun e w' => ∃ o : Value, e = .returned (.tuple #[o, .nilIface]) ∧ OwnI w' w.heap.size o (sumK n x) ∧ Below w.heap.size w w' := by
  obtain ⟨fn, H⟩ := sum_is hn
  have HOF := (show Hid _ from H.of)
  have eg := H.eg
  have HSU := (show Hid _ from H.sum)
  obtain ⟨g, off, cap, ad, cp, rfl, hg, c0, R0, hcap, hmax⟩ := hk.one
  obtain ⟨i1, i2, i3, rfl⟩ := hi
  have C0 := (show Hid _ from c0)
  have ta1 := ta61 n
  have ta2 := ta62 n
  have ta3 := ta63 n
  have ta4 := ta64 n
  have ta5 := ta65 n
  have ta6 := ta66 n
  clear H c0
  go_enter Tryz.func50, Tryz.ntmps50
  go_wp2_with fail
  refine (HOF.out _).mono ?_
  rintro e w1 ⟨rfl, hb1⟩
  have d0 := cell_below hb1 C0.out
  have R1 := R0.keep hb1
  go_wp2_with fail
  refine (HSU.out _ x w1 R1).mono ?_
  rintro e w3 ⟨o3, rfl, own3, hb3⟩
  have O3 := (show Hid (OwnI w3 w1.heap.size o3 (sumK n x)) from own3)
  have hs := hb1.size
  clear own3
  go_wp2_with fail
  refine bodyPost_ret (v := .tuple #[_, .nilIface]) (by simp [results, Tryz.results50, go_sem]; try rfl) rfl ?_
  exact ⟨_, rfl, own_less O3.out hs, bStep hb1 hb3⟩
theorem sumK_lenA (n : Int) (x : List It) : (sumK n x).length ≤ 400 := by
  unfold sumK
  split
  · have := countS_len x; omega
  split
  · exact onceS_len x
  · have := leastS_len x; omega
theorem outI_len {a b : List It} {t : PT} {K : List (List It)} (hK : ∀ l ∈ K, sokB l = true) (hal : a.length ≤ 400) (hbl : b.length ≤ 400) : (outI a b t K).length ≤ 1000000 := by
  have hg : ∀ i, sokB (K.getD i []) = true := fun i => by
    rw [List.getD_eq_getElem?_getD]
    cases h : K[i]? with
    | none => exact sok_nil
    | some l => exact hK l (List.mem_of_getElem? h)
  have h0 := hg 0
  have h1 := hg 1
  unfold outI
  split
  · split <;> omega
  · generalize K.getD 0 [] = x at *
    generalize K.getD 1 [] = y at *
    have l0 := sok_len h0
    have l1 := sok_len h1
    unfold opS
    split
    · have := each_lenS x t.n; omega
    split
    · have := bothS_len x y; omega
    split
    · have := lessS_len x; omega
    split
    · rw [joinS_yes h0 h1]
      have := sumL_len ltT (pairT x y); have := pair_len x y
      have : x.length * y.length ≤ 400 * 400 := Nat.mul_le_mul l0 l1
      omega
    · have := sumK_lenA t.n x; omega
set_option maxHeartbeats 2000000 in
theorem itemsMade_any {a b : List It} {t : PT} {K : List (List It)} {w : World} {iv kv : Value} (hh : hereB t = true) (hl : K.length = t.len) (hK : ∀ l ∈ K, sokB l = true) (hsm : ∀ l ∈ K, absum l ≤ 1200000) (hal : a.length ≤ 400) (hbl : b.length ≤ 400) (hi : LyI w iv [a, b]) (hk : LyI w kv K) :
    Calls Tryz.prog 50 #[kiV t, iv, kv] w fun e w' => ∃ o : Value, e = .returned (.tuple #[o, .nilIface]) ∧ OwnI w' w.heap.size o (outI a b t K) ∧ (outI a b t K).length ≤ 1000000 ∧ Below w.heap.size w w' := by
  have hlen := outI_len (t := t) hK hal hbl
  obtain ⟨p1, p2, p3, p4⟩ := here_parts hh
  have key : Calls Tryz.prog 50 #[kiV t, iv, kv] w fun e w' => ∃ o : Value, e = .returned (.tuple #[o, .nilIface]) ∧ OwnI w' w.heap.size o (outI a b t K) ∧ Below w.heap.size w w' := by
    obtain ⟨ia, ic, hiv⟩ := hi.sl
    obtain ⟨ka, kc, hkv⟩ := hk.sl
    cases t with
    | n0 k n =>
      obtain rfl := len0_k hh
      simp [numLo, numHi, PT.k, PT.n] at p3 p4
      exact itemsMade_in (n := n) (by omega) hi hal hbl ⟨_, _, _, hkv⟩
    | n1 k n x =>
      obtain ⟨l, rfl⟩ : ∃ l, K = [l] := by
        match K, hl with
        | [l], _ => exact ⟨l, rfl⟩
      simp only [PT.k, PT.n, PT.len] at p1 p2 p3 p4
      have hc : k = 1 ∨ k = 2 ∨ k = 3 ∨ k = 4 ∨ k = 5 ∨ k = 6 := by omega
      rcases hc with rfl | rfl | rfl | rfl | rfl | rfl
      · exact absurd p2 (by decide)
      · exact itemsMade_each ⟨_, _, _, hiv⟩ hk
      · exact absurd p2 (by decide)
      · exact itemsMade_less ⟨_, _, _, hiv⟩ hk
      · exact absurd p2 (by decide)
      · exact itemsMade_sum (by simp [numLo, numHi] at p3 p4; simp [inB]; exact ⟨p3, p4⟩) ⟨_, _, _, hiv⟩ hk
    | n2 k n x y =>
      obtain ⟨l, m, rfl⟩ : ∃ l m, K = [l, m] := by
        match K, hl with
        | [l, m], _ => exact ⟨l, m, rfl⟩
      have hb := hK l (by simp)
      have hb' := hK m (by simp)
      simp only [PT.k, PT.n, PT.len] at p1 p2 p3 p4
      have hc : k = 1 ∨ k = 2 ∨ k = 3 ∨ k = 4 ∨ k = 5 ∨ k = 6 := by omega
      rcases hc with rfl | rfl | rfl | rfl | rfl | rfl
      · exact absurd p2 (by decide)
      · exact absurd p2 (by decide)
      · exact itemsMade_both ⟨_, _, _, hiv⟩ hk
      · exact absurd p2 (by decide)
      · have e : outI a b (.n2 5 n x y) [l, m] = sumL ltT (pairT l m) := joinS_yes hb hb'
        rw [e]
        exact itemsMade_join hb hb' (hsm l (by simp)) (hsm m (by simp)) ⟨_, _, _, hiv⟩ hk
      · exact absurd p2 (by decide)
  refine key.mono ?_
  rintro e w' ⟨o, rfl, h1, h2⟩
  exact ⟨o, rfl, h1, hlen, h2⟩
end Go.Proofs.YtldejkhemkjcgaaGreatDoor
namespace Go.Proofs.YtldejkhemkjcgaaGreatDoor
open Go.RowKit Go.Shelf
set_option maxRecDepth 100000 in
set_option maxHeartbeats 4000000 in
theorem allOkI_any (v : Value) (K : List (List It)) (w : World) (h : LyI w v K) :
    Calls Tryz.prog 93 #[v, .func (.func 38) #[] #[]] w fun e w' => e = .returned (.bool (K.all sokB)) ∧ Below w.heap.size w w' := by
  have eg := enters_of (P := Tryz.prog) Tryz.func38 (by kernel_rfl) rfl
  have HH := (show Hid (LyI w v K) from h)
  obtain ⟨a, cap, rfl, hc, hm, hn, -⟩ := h.open
  unfold maxLen at hm
  clear h
  go_enter Tryz.func93, Tryz.ntmps93
  go_wp2_with fail
  go_loopw [9] (fun i wr => ∃ k : Nat, k ≤ K.length ∧ i = .int .i64 k ∧ (K.take k).all sokB = true ∧ Below w.heap.size w wr) (fun i _ => K.length - (intOf i).toNat)
  case atStart => exact ⟨0, by omega, rfl, by simp, Below.refl _ _⟩
  case round =>
    obtain ⟨k, hkl, rfl, hall, hb⟩ := hrel
    have HA := (show Hid ((K.take k).all sokB = true) from hall)
    clear hall
    by_cases hlt : k < K.length
    · obtain ⟨l, hl⟩ : ∃ l, K[k]? = some l := ⟨_, List.getElem?_eq_getElem hlt⟩
      obtain ⟨a', cap', e', -, -, -, hcell⟩ := (HH.out.keep hb).open
      cases e'
      obtain ⟨g, off, ad, cp, rfl, hg, c0, hR⟩ := hcell k l hl
      have ik : ((k : Int) < (K.length : Int)) := by omega
      have HL := (show Hid (K[k]? = some l) from hl)
      clear hcell hl
      go_wp2_with fail
      refine (implSetOk_any _ l wr hR).mono ?_
      rintro e w1 ⟨rfl, hb1⟩
      have hbw := bStep hb hb1
      cases ho : sokB l
      · have HX : Hid (K.all sokB = false) := by
          show _ = _
          rw [List.all_eq_false]
          exact ⟨l, List.mem_of_getElem? HL.out, by simp [ho]⟩
        go_wp2_with fail
        go_ret
        exact ⟨by rw [HX.out]; rfl, hbw⟩
      · have HX : Hid ((K.take (k + 1)).all sokB = true) := by
          show _ = _
          rw [take_snoc HL.out, List.all_append, HA.out]; simp [ho]
        go_wp2_with fail
        go_roundw
        case rel => exact ⟨k + 1, by omega, by go_num, HX.out, hbw⟩
        case measure => simp [intOf]; omega
    · obtain rfl : k = K.length := by omega
      rw [List.take_length] at HA
      have ik : ¬ ((K.length : Int) < (K.length : Int)) := by omega
      go_wp2_with fail
      go_ret
      exact ⟨by rw [HA.out]; rfl, hb⟩
def MadeI (ea : Addr) (a b : List It) (t : PT) (w : World) (e : Ending) (w' : World) : Prop :=
  ((∃ o r, planS a b t = some r ∧ e = .returned (.tuple #[o, .nilIface]) ∧ OwnI w' w.heap.size o r) ∨ (planS a b t = none ∧ e = .returned (.tuple #[.slice none 0 0, erV ea]))) ∧ Below w.heap.size w w'
theorem okS_atI {p : Nat → Prop} {w : World} {t : PT} {a : Option Addr} {n c : Nat} (h : OkS p w t (.slice a n c)) {i : Nat} (hi : i < t.len) :
    ∃ g off sx, a = some ⟨g, off, none⟩ ∧ g < w.heap.size ∧ w.cell? ⟨g, off + i * 2, none⟩ = some (kiV (t.kid i)) ∧ w.cell? ⟨g, off + i * 2 + 1, none⟩ = some sx ∧ OkS p w (t.kid i) sx ∧ (∃ b m d, sx = .slice b m d) := by
  cases t with
  | n0 k n => simp [PT.len] at hi
  | n1 k n x =>
    obtain ⟨g, c, sx, e, _, h1, h2, h3⟩ := h
    obtain rfl : i = 0 := by simp [PT.len] at hi; exact hi
    cases e
    obtain ⟨b, d, e2⟩ := h3.sl
    exact ⟨g, 0, sx, rfl, lt_of_cell h1, by simpa [PT.kid] using h1, by simpa using h2, h3, _, _, _, e2⟩
  | n2 k n x y =>
    obtain ⟨g, c, sx, sy, e, _, h1, h2, h3, h4, h5, h6⟩ := h
    cases e
    cases i with
    | zero =>
      obtain ⟨b, d, e2⟩ := h5.sl
      exact ⟨g, 0, sx, rfl, lt_of_cell h1, by simpa [PT.kid] using h1, by simpa using h2, h5, _, _, _, e2⟩
    | succ i =>
      obtain rfl : i = 0 := by simp [PT.len] at hi; omega
      obtain ⟨b, d, e2⟩ := h6.sl
      exact ⟨g, 0, sy, rfl, lt_of_cell h1, by simpa [PT.kid] using h3, by simpa using h4, h6, _, _, _, e2⟩
theorem okS_keepI {p : Nat → Prop} {w w' : World} (hb : Below w.heap.size w w') {t : PT} {s : Value} (h : OkS p w t s) : OkS p w' t s := h.move fun g hg hl => ⟨hg, hb.block g hl⟩
set_option maxRecDepth 100000 in
set_option maxHeartbeats 16000000 in
theorem madeByI_step (ea : Addr) {a b : List It} (hal : a.length ≤ 400) (hbl : b.length ≤ 400) {t : PT} {p : Nat → Prop} {s iv : Value} {w : World} (hh : hereB t = true) (hfi : FineI a b t) (hs : OkS p w t s) (hi : LyI w iv [a, b]) (hg : w.cell? ⟨0, 0, none⟩ = some (erV ea))
    (hrec : ∀ i, i < t.len → ∀ (W : World) (s' : Value), OkS p W (t.kid i) s' → LyI W iv [a, b] → W.cell? ⟨0, 0, none⟩ = some (erV ea) → Calls Tryz.prog 94 #[.agg #[kiV (t.kid i), s'], iv, .func (.func 38) #[] #[], .func (.func 50) #[] #[]] W (MadeI ea a b (t.kid i) W)) :
    Calls Tryz.prog 94 #[.agg #[kiV t, s], iv, .func (.func 38) #[] #[], .func (.func 50) #[] #[]] w (MadeI ea a b t w) := by
  have eg := enters_of (P := Tryz.prog) Tryz.func38 (by kernel_rfl) rfl
  have eg1 := enters_of (P := Tryz.prog) Tryz.func50 (by kernel_rfl) rfl
  have HR := (show Hid _ from hrec)
  have HH := (show Hid (hereB t = true) from hh)
  have HF := (show Hid (FineI a b t) from hfi)
  have hb0 : Below w.heap.size w (w.alloc (.cells #[kiV t, s] 100)) := bAlloc (Below.refl _ _) _
  have bP : Bk (w.alloc (.cells #[kiV t, s] 100)) w.heap.size #[kiV t, s] 100 := Bk.new _ _ rfl
  have HSL := (show Hid (OkS p w t s) from hs)
  have HIV := (show Hid (LyI w iv [a, b]) from hi)
  obtain ⟨sa, sc, rfl⟩ := hs.sl
  obtain ⟨ig, ioff, icap, iad, icp, iad', icp', rfl, -⟩ := hi.two
  have htl := PT.len_le t
  obtain ⟨x0, x1, _, _⟩ := bP.two
  clear hs hi hrec hh hfi
  go_enter Tryz.func94, Tryz.ntmps94
  go_wp2_with fail
  generalize w.alloc (.cells #[kiV t, .slice sa t.len sc] 100) = W0 at *
  clear x0 x1
  go_loopw [10, 20] (fun o i wr => ∃ (k : Nat) (vs : List Value) (K : List (List It)), k ≤ t.len ∧ i = .int .i64 k ∧ K.length = k ∧ OwnVI wr (w.heap.size + 1) o vs ∧ EoI wr (w.heap.size + 1) vs K ∧ (∀ j l, K[j]? = some l → planS a b (t.kid j) = some l) ∧ Bk wr w.heap.size #[kiV t, .slice sa t.len sc] 100 ∧ Below w.heap.size w wr) (fun _ i _ => t.len - (intOf i).toNat)
  case atStart => exact ⟨0, [], [], by omega, rfl, rfl, ownK_nil _ _ _ _ _, EoI.nil _ _, fun j l h => by simp at h, bP, hb0⟩
  case round =>
    clear hb0 bP
    obtain ⟨k, vs, K, hkl, rfl, hKl, hown, heo, hpl, bP, hb⟩ := hrel
    have HO := (show Hid (OwnVI wr (w.heap.size + 1) u10 vs) from hown)
    have HE := (show Hid (EoI wr (w.heap.size + 1) vs K) from heo)
    have HP := (show Hid _ from hpl)
    have HV : Hid (vs.length = k) := by show _ = _; rw [heo.1, hKl]
    have hsz := hb.size
    have hbl2 := bP.lt
    clear hown heo hpl
    by_cases hlt : k < t.len
    · have ik : ((k : Int) < (t.len : Int)) := by omega
      have hk1 := okS_keepI hb HSL.out
      obtain ⟨g, off, sx, rfl, hgl, c0, c1, hkid, b2, m2, d2, rfl⟩ := okS_atI hk1 hlt
      have bx := Bk.new (w := wr) #[kiV (t.kid k), .slice b2 m2 d2] 100 rfl
      have hbx : Below wr.heap.size wr (wr.alloc (.cells #[kiV (t.kid k), .slice b2 m2 d2] 100)) := bAlloc (Below.refl _ _) _
      have hbw5 := bStep hb hbx
      have HC6 := (show Hid _ from HR.out k hlt _ _ (okS_keepI hbx hkid) (HIV.out.keep hbw5) (cell_below hbw5 hg))
      obtain ⟨q0, q1, _, _⟩ := bx.two
      clear hk1 hkid bx
      go_wp2_with fail
      refine Calls.mono HC6.out ?_
      rintro e w7 ⟨hor, hb7⟩
      have hb70 : Below wr.heap.size wr w7 := bStep hbx hb7
      have hbw7 := bStep hbw5 hb7
      have hsz7 := hb70.size
      have hsA : (wr.alloc (.cells #[kiV (t.kid k), .slice b2 m2 d2] 100)).heap.size = wr.heap.size + 1 := by simp
      rw [hsA] at hor
      clear HC6 q0 q1 hbx hbw5 hb7 c0 c1 hsA
      rcases hor with ⟨o7, r7, hp7, rfl, own7⟩ | ⟨hp7, rfl⟩
      · have hrl : r7.length ≤ 400 := planS_len hp7
        obtain ⟨a7, c7, e7, -⟩ := Is.open (OwnI.is own7 (by omega))
        subst e7
        have bn : Bk (w7.alloc (.cells #[.slice a7 r7.length c7] 35)) w7.heap.size #[.slice a7 r7.length c7] 35 := Bk.new _ _ rfl
        have hbn : Below w7.heap.size w7 (w7.alloc (.cells #[.slice a7 r7.length c7] 35)) := bAlloc (Below.refl _ _) _
        have hbn2 := bStep hb70 hbn
        have HO8 := (show Hid (OwnVI (w7.alloc (.cells #[.slice a7 r7.length c7] 35)) (w.heap.size + 1) u10 vs) from own_keep HO.out hbn2)
        have HE8 := (show Hid (EoI (w7.alloc (.cells #[.slice a7 r7.length c7] 35)) (w.heap.size + 1) (vs ++ [.slice a7 r7.length c7]) (K ++ [r7])) from (HE.out.keep hbn2).snoc (own_keep (own_less own7 (by omega)) hbn) (by omega))
        have HP8 : Hid (∀ j l, (K ++ [r7])[j]? = some l → planS a b (t.kid j) = some l) := fun j l hj => by
          rcases Nat.lt_or_ge j K.length with h | h
          · rw [List.getElem?_append_left h] at hj
            exact HP.out j l hj
          · rw [List.getElem?_append_right h] at hj
            have : j = k := by
              have := (List.getElem?_eq_some_iff.1 hj).1
              simp at this; omega
            subst this
            rw [hKl, Nat.sub_self] at hj
            cases hj
            exact hp7
        have bP8 := bP.keep hbn2
        have HB8 := (show Hid _ from bStep hbw7 hbn)
        have hz8 : (w7.alloc (.cells #[.slice a7 r7.length c7] 35)).heap.size = w7.heap.size + 1 := by simp
        clear own7 hbn hbn2 HO HE HP bP
        go_wp2_with (at_builtin; go_must (refine appVI _ rfl _ _ rfl (w.heap.size + 1) _ vs rfl HO8.out _ _ _ _ rfl bn (by have := HV.out; omega) (by simp; omega) ?_); intro g9 cap9 w9 own9 hg9 hlg)
        have hbw9 : Below w.heap.size w w9 := Below.grew HB8.out hg9 (by rw [hz8]; omega) (fun q e => by have := ownK_base HO8.out q e; omega)
        have bP9 : Bk w9 w.heap.size #[kiV t, .slice (some ⟨g, off, none⟩) t.len sc] 100 := Bk.grew bP8 hg9 (fun q e => by have := ownK_base HO8.out q e; omega)
        refine ⟨⟨k + 1, _, _, by omega, by go_num, by simp [hKl], own9, HE8.out.grew HO8.out hg9, HP8.out, bP9, hbw9⟩, ?_⟩
        simp [intOf]; omega
      · have HX : Hid (planS a b t = none) := planS_none hlt hp7
        go_wp2_with fail
        refine bodyPost_ret (v := .tuple #[.slice none 0 0, erV ea]) (by simp [results, Tryz.results94, go_sem]; try rfl) rfl ?_
        exact ⟨.inr ⟨HX.out, rfl⟩, hbw7⟩
    · obtain rfl : k = t.len := by omega
      have ik : ¬ ((t.len : Int) < (t.len : Int)) := by omega
      have HKO : Hid (planS a b t = fitI (outI a b t K)) := planS_of HH.out hKl HP.out
      have LK := HE.out.ly HO.out (by have := HV.out; omega)
      have hK : ∀ l ∈ K, sokB l = true := fun l hl => by
        obtain ⟨j, hj⟩ := List.getElem?_of_mem hl
        exact planS_sok (HP.out j l hj)
      have hsmK : ∀ l ∈ K, absum l ≤ 1200000 := fun l hl => by
        obtain ⟨j, hj⟩ := List.getElem?_of_mem hl
        exact (fineI_at HF.out (by rw [← hKl]; exact (List.getElem?_eq_some_iff.1 hj).1)).2 l (HP.out j l hj)
      have HM := (show Hid _ from itemsMade_any HH.out hKl hK hsmK hal hbl (HIV.out.keep hb) LK)
      have hg1 := cell_below hb hg
      obtain ⟨ka, kc, ekv⟩ := LK.sl
      subst ekv
      obtain ⟨y0, y1, _, _⟩ := bP.two
      clear LK HO HE HP hK hKl
      go_wp2_with fail
      refine Calls.mono HM.out ?_
      rintro e w8 ⟨o8, rfl, own8, hol, hb8⟩
      have hbw8 := bStep hb hb8
      have R8 := OwnI.is own8 (by omega)
      obtain ⟨a8, c8, e8, -⟩ := Is.open R8
      subst e8
      have HO8 := (show Hid (OwnI w8 w.heap.size _ _) from own_less own8 hsz)
      clear own8 HM y0 y1
      generalize outI a b t K = O at *
      go_wp2_with fail
      refine (implSetOk_any _ _ w8 R8).mono ?_
      rintro e w9 ⟨rfl, hb9⟩
      have hbw9 := bStep hbw8 hb9
      cases ho : sokB O
      · have HX : Hid (planS a b t = none) := by show _ = _; rw [HKO.out, fitI_no ho]
        have hg9 := cell_below hbw9 hg
        go_wp2_with fail
        go_quiet (fail)
        have hg10 := cell_below (bDrewN hbw9 nq) hg
        go_wp2_with fail
        refine bodyPost_ret (v := .tuple #[.slice none 0 0, erV ea]) (by simp [results, Tryz.results94, go_sem]; try rfl) rfl ?_
        exact ⟨.inr ⟨HX.out, rfl⟩, bDrewN hbw9 _⟩
      · have HX : Hid (planS a b t = some O) := by show _ = _; rw [HKO.out, fitI_yes ho]
        go_wp2_with fail
        refine bodyPost_ret (v := .tuple #[.slice a8 O.length c8, .nilIface]) (by simp [results, Tryz.results94, go_sem]; try rfl) rfl ?_
        exact ⟨.inl ⟨_, _, HX.out, rfl, own_keep HO8.out hb9⟩, hbw9⟩
theorem madeByI_any (ea : Addr) {a b : List It} (hal : a.length ≤ 400) (hbl : b.length ≤ 400) {p : Nat → Prop} {iv : Value} : ∀ (d : Nat) (t : PT) {s : Value} {w : World}, pokB t d = true → FineI a b t → OkS p w t s → LyI w iv [a, b] → w.cell? ⟨0, 0, none⟩ = some (erV ea) →
    Calls Tryz.prog 94 #[.agg #[kiV t, s], iv, .func (.func 38) #[] #[], .func (.func 50) #[] #[]] w (MadeI ea a b t w) := by
  intro d
  induction d with
  | zero => intro t s w hp; rw [pok_zero] at hp; cases hp
  | succ d ih =>
    intro t s w hp hf hs hi hg
    obtain ⟨hh, hk⟩ := pok_parts hp
    exact madeByI_step ea hal hbl hh hf hs hi hg fun i hi' W s' hs' hiv hg' => ih (t.kid i) (hk i hi') (fineI_kid hf hi') hs' hiv hg'
set_option maxRecDepth 100000 in
set_option maxHeartbeats 8000000 in
theorem plannedI_any (ea : Addr) {t : PT} {B : Nat} {s iv : Value} {K : List (List It)} {w : World} (hsm : t.sm) (hs : KdS B w t s) (hi : LyI w iv K) (hg : w.cell? ⟨0, 0, none⟩ = some (erV ea)) (hfi : ∀ a b, K = [a, b] → pokB t 4 = true → sokB a = true → sokB b = true → FineI a b t) :
    Calls Tryz.prog 49 #[pl t.k t.n s, iv, .func (.func 38) #[] #[], .func (.func 50) #[] #[]] w fun e w' => ∃ o : Value, e = .returned (.tuple #[o, .bool (flowI t K).isSome]) ∧ OwnI w' w.heap.size o ((flowI t K).getD []) ∧ Below w.heap.size w w' := by
  have bP : Bk (w.alloc (.cells #[.int .i64 t.k, .int .i64 t.n, s] 25)) w.heap.size #[.int .i64 t.k, .int .i64 t.n, s] 25 := Bk.new _ _ rfl
  have hb0 : Below w.heap.size w (w.alloc (.cells #[.int .i64 t.k, .int .i64 t.n, s] 25)) := bAlloc (Below.refl _ _) _
  obtain ⟨x0, x1, x2⟩ := bP.three'
  have HC := (show Hid _ from okPlan_any ea 4 t 1 (by omega) (by omega) hsm (hs.keep hb0) (cell_below hb0 hg))
  have HI := (show Hid (LyI w iv K) from hi)
  have HF := (show Hid _ from hfi)
  obtain ⟨a, c, rfl⟩ := hs.sl
  obtain ⟨ia, ic, rfl⟩ := hi.sl
  clear hs hsm bP hi hfi
  go_enter Tryz.func49, Tryz.ntmps49
  go_wp2_with fail
  refine Calls.mono HC.out ?_
  rintro e w1 ⟨hor, hb1⟩
  have hbw := bStep hb0 hb1
  clear HC x0 x1 x2
  rcases hor with ⟨hp, a3, n3, c3, rfl, hok⟩ | ⟨hp, rfl⟩
  · have hb2 := bAlloc hbw (.cells #[kiV t, .slice a3 n3 c3] 100)
    have bO : Bk (w1.alloc (.cells #[kiV t, .slice a3 n3 c3] 100)) w1.heap.size #[kiV t, .slice a3 n3 c3] 100 := Bk.new _ _ rfl
    have hok2 := (show Hid _ from okS_keepI (bAlloc (Below.refl w1.heap.size w1) (.cells #[kiV t, .slice a3 n3 c3] 100)) hok)
    have hg2 := cell_below hb2 hg
    have HP := (show Hid (pokB t 4 = true) from hp)
    clear hok hb1 hbw hp hb0
    by_cases h2 : K.length = 2
    · have ik : ((K.length : Int) == 2) = true := by simp; omega
      have ik2 : (K.length : Int) = 2 := by omega
      have h2' := (show Hid (K.length = 2) from h2)
      clear h2
      go_wp2_with fail
      refine (is_nil _ _).mono ?_
      rintro e w2 ⟨rfl, rfl⟩
      go_wp2_with fail
      refine (allOkI_any _ K _ (HI.out.keep hb2)).mono ?_
      rintro e w4 ⟨rfl, hb4⟩
      have hbw4 := bStep hb2 hb4
      cases hall : K.all sokB
      · have HX : Hid (flowI t K = none) := flowI_no3 hall
        go_wp2_with fail
        refine bodyPost_ret (v := .tuple #[.slice none 0 0, .bool false]) (by simp [results, Tryz.results49, go_sem]; try rfl) rfl ?_
        exact ⟨_, by rw [HX.out]; rfl, by rw [HX.out]; exact ownK_nil _ _ _ _ _, hbw4⟩
      · obtain ⟨la, lb, hK⟩ := two_of h2'.out
        have hab : sokB la = true ∧ sokB lb = true := by rw [hK] at hall; simpa using hall
        have HX : Hid (flowI t K = planS la lb t) := by show _ = _; rw [hK]; exact flowI_two HP.out hab.1 hab.2
        have HM := (show Hid _ from madeByI_any ea (sok_len hab.1) (sok_len hab.2) 4 t HP.out (HF.out la lb hK HP.out hab.1 hab.2) (okS_keepI hb4 hok2.out) (by rw [← hK]; exact HI.out.keep hbw4) (cell_below hbw4 hg))
        have bO4 := bO.keep hb4
        obtain ⟨y0, y1, _, _⟩ := bO4.two
        clear hok2 HF hK hab bO bO4
        go_wp2_with fail
        refine Calls.mono HM.out ?_
        rintro e w5 ⟨hor, hb5⟩
        have hbw5 := bStep hbw4 hb5
        have hs4 := hbw4.size
        have hg5 := cell_below hbw5 hg
        clear HM
        rcases hor with ⟨o5, r5, hp5, rfl, own5⟩ | ⟨hp5, rfl⟩
        · have O5 := (show Hid (OwnI w5 w.heap.size o5 r5) from own_less own5 hs4)
          have HY := (show Hid (planS la lb t = some r5) from hp5)
          clear own5 hp5
          go_wp2_with fail
          refine (is_nil _ _).mono ?_
          rintro e w6 ⟨rfl, rfl⟩
          go_wp2_with fail
          refine bodyPost_ret (v := .tuple #[o5, .bool true]) (by simp [results, Tryz.results49, go_sem]; try rfl) rfl ?_
          exact ⟨_, by rw [HX.out, HY.out]; rfl, by rw [HX.out, HY.out]; exact O5.out, hbw5⟩
        · have HY := (show Hid (planS la lb t = none) from hp5)
          clear hp5
          go_wp2_with fail
          refine (is_same _ _).mono ?_
          rintro e w6 ⟨rfl, rfl⟩
          go_wp2_with fail
          refine bodyPost_ret (v := .tuple #[.slice none 0 0, .bool false]) (by simp [results, Tryz.results49, go_sem]; try rfl) rfl ?_
          exact ⟨_, by rw [HX.out, HY.out]; rfl, by rw [HX.out, HY.out]; exact ownK_nil _ _ _ _ _, hbw5⟩
    · have ik : ((K.length : Int) == 2) = false := by simp; omega
      have HX : Hid (flowI t K = none) := flowI_no2 h2
      go_wp2_with fail
      refine (is_nil _ _).mono ?_
      rintro e w2 ⟨rfl, rfl⟩
      go_wp2_with fail
      refine bodyPost_ret (v := .tuple #[.slice none 0 0, .bool false]) (by simp [results, Tryz.results49, go_sem]; try rfl) rfl ?_
      exact ⟨_, by rw [HX.out]; rfl, by rw [HX.out]; exact ownK_nil _ _ _ _ _, hb2⟩
  · have hb2 := bAlloc hbw (.cells #[.nilIface, .slice none 0 0] 100)
    have hg2 := cell_below hb2 hg
    have HX : Hid (flowI t K = none) := flowI_no1 hp
    go_wp2_with fail
    refine (is_same _ _).mono ?_
    rintro e w2 ⟨rfl, rfl⟩
    go_wp2_with fail
    refine bodyPost_ret (v := .tuple #[.slice none 0 0, .bool false]) (by simp [results, Tryz.results49, go_sem]; try rfl) rfl ?_
    exact ⟨_, by rw [HX.out]; rfl, by rw [HX.out]; exact ownK_nil _ _ _ _ _, hb2⟩
set_option maxHeartbeats 2000000 in
theorem implPlanSet_any (ea : Addr) {t : PT} {B : Nat} {s iv : Value} {K : List (List It)} {w : World} (hsm : t.sm) (hs : KdS B w t s) (hi : LyI w iv K) (hg : w.cell? ⟨0, 0, none⟩ = some (erV ea)) (hfi : ∀ a b, K = [a, b] → pokB t 4 = true → sokB a = true → sokB b = true → FineI a b t) :
    Calls Tryz.prog 18 #[pl t.k t.n s, iv] w fun e w' => ∃ o : Value, e = .returned (.tuple #[o, .bool (flowI t K).isSome]) ∧ OwnI w' w.heap.size o ((flowI t K).getD []) ∧ Below w.heap.size w w' := by
  have bP : Bk (w.alloc (.cells #[.int .i64 t.k, .int .i64 t.n, s] 25)) w.heap.size #[.int .i64 t.k, .int .i64 t.n, s] 25 := Bk.new _ _ rfl
  have hb0 : Below w.heap.size w (w.alloc (.cells #[.int .i64 t.k, .int .i64 t.n, s] 25)) := bAlloc (Below.refl _ _) _
  obtain ⟨x0, x1, x2⟩ := bP.three'
  have HM := (show Hid _ from plannedI_any ea hsm (hs.keep hb0) (hi.keep hb0) (cell_below hb0 hg) hfi)
  obtain ⟨a, c, rfl⟩ := hs.sl
  obtain ⟨ia, ic, rfl⟩ := hi.sl
  clear hs hi hsm hfi bP
  go_enter Tryz.func18, Tryz.ntmps18
  go_wp2_with fail
  refine Calls.mono HM.out ?_
  rintro e w1 ⟨o, rfl, own1, hb1⟩
  have hs0 := hb0.size
  have O1 := (show Hid (OwnI w1 w.heap.size o ((flowI t K).getD [])) from own_less own1 hs0)
  clear own1 HM x0 x1 x2
  go_wp2_with fail
  refine bodyPost_ret (v := .tuple #[o, .bool (flowI t K).isSome]) (by simp [results, Tryz.results18, go_sem]; try rfl) rfl ?_
  exact ⟨_, rfl, O1.out, bStep hb0 hb1⟩
end Go.Proofs.YtldejkhemkjcgaaGreatDoor
namespace Go.Proofs.YtldejkhemkjcgaaGreatDoor
open Go.RowKit Go.Shelf
end Go.Proofs.YtldejkhemkjcgaaGreatDoor
namespace Go.Proofs.YtldejkhemkjcgaaGreatDoor
open Go.RowKit
theorem flowI_some {t : PT} {K : List (List It)} {r : List It} (h : flowI t K = some r) : ∃ a b, K = [a, b] ∧ pokB t 4 = true ∧ sokB a = true ∧ sokB b = true ∧ planS a b t = some r := by
  unfold flowI at h; split at h
  · rename_i a b
    split at h
    · rename_i hc
      simp only [Bool.and_eq_true] at hc
      exact ⟨a, b, rfl, hc.1.1, hc.1.2, hc.2, h⟩
    · cases h
  · cases h
theorem flowI_sok {t : PT} {K : List (List It)} {r : List It} (h : flowI t K = some r) : sokB r = true := by
  obtain ⟨a, b, _, _, _, _, hp⟩ := flowI_some h
  exact planS_sok hp
theorem flowI_len {t : PT} {K : List (List It)} {r : List It} (h : flowI t K = some r) : r.length ≤ 400 := sok_len (flowI_sok h)
theorem fine_few {t : PT} {K : List (List It)} (hK : ∀ l ∈ K, absum l ≤ 33) : ∀ a b, K = [a, b] → pokB t 4 = true → sokB a = true → sokB b = true → FineI a b t := fun a b e hp _ _ => by
  subst e
  exact fineI_of (hK a (by simp)) (hK b (by simp)) 4 t (by omega) hp
theorem implSet_yes (ea : Addr) {t : PT} {B : Nat} {s iv : Value} {K : List (List It)} {w : World} {r : List It} (hf : flowI t K = some r) (hK : ∀ l ∈ K, absum l ≤ 33) (hsm : t.sm) (hs : KdS B w t s) (hi : LyI w iv K) (hg : w.cell? ⟨0, 0, none⟩ = some (erV ea)) :
    Calls Tryz.prog 18 #[pl t.k t.n s, iv] w fun e w' => ∃ o : Value, e = .returned (.tuple #[o, .bool true]) ∧ Is w' o r ∧ Below w.heap.size w w' := by
  refine (implPlanSet_any ea hsm hs hi hg (fine_few hK)).mono ?_
  rintro e w1 ⟨o, rfl, own, hb⟩
  rw [hf] at own ⊢
  exact ⟨o, rfl, OwnI.is own (by have := flowI_len hf; simp; omega), hb⟩
end Go.Proofs.YtldejkhemkjcgaaGreatDoor
