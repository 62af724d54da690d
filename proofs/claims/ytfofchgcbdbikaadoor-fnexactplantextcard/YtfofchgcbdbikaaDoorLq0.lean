/- A number of a word, by the model: the contracts. -/
import Derived.Test.YtfofchgcbdbikaaDoorLp9
namespace Go.Proofs.YtfofchgcbdbikaaDoor
open Go.RowKit Go.Shelf

/-- Some short text is answered. -/
def StrPost (m : Nat) (w : World) (e : Ending) (w' : World) : Prop := (∃ s : ByteArray, e = .returned (.string s) ∧ s.size ≤ m) ∧ Below w.heap.size w w'
theorem ldec_one {n : Int} (h0 : 0 ≤ n) (h9 : n ≤ 9) (w : World) : Calls Tryd.prog 44 #[.int .i64 n] w (StrPost 1 w) := by
  refine (l6Dec_dig (n := n) rfl h0 h9 w).mono ?_
  rintro e w' ⟨rfl, hb⟩
  exact ⟨⟨_, rfl, by rw [baS_size]; simp⟩, hb⟩
theorem keepc {V w1 : World} {g i : Nat} {v : Value} {Q : Prop} (hb : Below V.heap.size V w1) (h : V.cell? ⟨g, i, none⟩ = some v) (k : w1.cell? ⟨g, i, none⟩ = some v → Q) : Q := k (cell_below hb h)
theorem conv_run {x : UInt8} {c : Int} (hx : (x.toNat : Int) = c) (W : World) (g : Nat) (h : W.cell? ⟨g, 0, none⟩ = some (.int .u8 c)) : (convert 22 9 (.slice (some ⟨g, 0, none⟩) 1 1)).run Tryd.prog W = .ok (.string (baS [x])) W :=
  run_convert_bytes_back (P := Tryd.prog) W 22 9 5 ⟨g, 0, none⟩ 1 [x] Tryd.underlying22 Tryd.underlying5 Tryd.underlying9 (fun j hj => by
    obtain rfl : j = 0 := (by simpa using hj)
    show W.cell? ⟨g, 0 + 0, none⟩ = _
    simpa [hx] using h)
set_option maxRecDepth 100000 in
set_option maxHeartbeats 4000000 in
theorem ldec_two {n : Int} (h0 : 10 ≤ n) (h9 : n ≤ 99) (w : World) : Calls Tryd.prog 44 #[.int .i64 n] w (StrPost 2 w) := by
  have g1 : ¬ (n < -9223372036854775807) := by omega
  have g2 : ¬ (n < 0) := by omega
  have g3 : ¬ (n < 10) := by omega
  obtain ⟨k, rfl⟩ := Int.eq_ofNat_of_zero_le (show 0 ≤ n by omega)
  obtain ⟨q, hq, q0, q9⟩ : ∃ q : Int, IntKind.i64.wrap ((k : Int) / 10) = q ∧ 0 ≤ q ∧ q ≤ 9 := ⟨_, rfl, by rw [IntKind.wrap_i64]; omega, by rw [IntKind.wrap_i64]; omega⟩
  obtain ⟨r, hr, r0, r9⟩ : ∃ r : Int, (k : Int).tmod 10 = r ∧ 0 ≤ r ∧ r ≤ 9 := ⟨_, rfl, by rw [Int.tmod_eq_emod_of_nonneg (by omega)]; omega, by rw [Int.tmod_eq_emod_of_nonneg (by omega)]; omega⟩
  obtain ⟨c, hc, c0, c9⟩ : ∃ c : Int, IntKind.i64.wrap (48 + r) = c ∧ 48 ≤ c ∧ c ≤ 57 := ⟨_, rfl, by rw [IntKind.wrap_i64]; omega, by rw [IntKind.wrap_i64]; omega⟩
  have hu : IntKind.u8.wrap c = c := by rw [IntKind.wrap_u8]; omega
  obtain ⟨x, hx⟩ : ∃ x : UInt8, (x.toNat : Int) = c := ⟨UInt8.ofNat c.toNat, by rw [UInt8.toNat_ofNat']; omega⟩
  have hcv := conv_run hx
  have HQ := (show Hid _ from fun (W : World) => ldec_one (n := q) q0 q9 W)
  clear hx
  go_enter Tryd.func44, Tryd.ntmps44
  go_wp2_with fail
  have hcell : (w.drew.alloc (.cells #[.int .u8 c] 5)).cell? ⟨w.heap.size, 0, none⟩ = some (.int .u8 c) := (show Bk _ w.heap.size _ _ from Bk.new (w := w.drew) #[Value.int .u8 c] 5 rfl).at rfl
  have H0 : Hid (Below w.heap.size w w.drew) := (Below.refl _ w).drew
  have H1 : Hid (Below w.heap.size w (w.drew.alloc (.cells #[.int .u8 c] 5))) := bAlloc H0.out _
  go_region_law (first
    | (go_simp; go_at_call 44; refine (HQ.out _).mono ?_; rintro e w1 ⟨⟨s1, rfl, hs1⟩, hb1⟩; refine keepc hb1 hcell ?_; intro hk1; have hz1 : ¬ (9223372036854775807 < s1.size + 1) := (by omega); have hbf : Below w.heap.size w w1 := by first | exact bStep H1.out hb1 | exact bStep H1.out.drew hb1)
    | (go_simp; go_at_call 44; refine (HQ.out _).mono ?_; rintro e w1 ⟨⟨s1, rfl, hs1⟩, hb1⟩; have hz1 : ¬ (9223372036854775807 < s1.size + 1) := (by omega); have hbf : Below w.heap.size w w1 := by first | exact bStep H0.out hb1 | exact bStep H0.out.drew hb1))
  all_goals
    go_wp2_with fail
    go_ret
    refine ⟨⟨_, rfl, ?_⟩, by first | exact hbf | exact bAlloc hbf _⟩
    have h2 := baS_size [x]
    simp only [List.length_cons, List.length_nil] at h2
    rw [ByteArray.size_append]
    omega
set_option maxRecDepth 100000 in
set_option maxHeartbeats 4000000 in
theorem ldec_any {n : Int} (h0 : -99 ≤ n) (h9 : n ≤ 99) (w : World) : Calls Tryd.prog 44 #[.int .i64 n] w (StrPost 3 w) := by
  have hpos : ∀ {m : Int} (W : World), 0 ≤ m → m ≤ 99 → Calls Tryd.prog 44 #[.int .i64 m] W (StrPost 2 W) := fun {m} W g0 g9 => by
    by_cases g : m ≤ 9
    · refine (ldec_one g0 g W).mono ?_
      rintro e w1 ⟨⟨s, rfl, hs⟩, hb⟩
      exact ⟨⟨s, rfl, by omega⟩, hb⟩
    · exact ldec_two (by omega) g9 W
  by_cases g : 0 ≤ n
  · refine (hpos w g h9).mono ?_
    rintro e w1 ⟨⟨s, rfl, hs⟩, hb⟩
    exact ⟨⟨s, rfl, by omega⟩, hb⟩
  · have g1 : ¬ (n < -9223372036854775807) := by omega
    have g2 : n < 0 := by omega
    have hn : IntKind.i64.wrap (-n) = -n := by rw [IntKind.wrap_i64]; omega
    have HP := (show Hid _ from hpos (m := -n) w (by omega) (by omega))
    clear hpos
    go_enter Tryd.func44, Tryd.ntmps44
    go_wp2_with fail
    refine Calls.mono HP.out ?_
    rintro e w1 ⟨⟨s, rfl, hs⟩, hb⟩
    have hz : ¬ (9223372036854775807 < 1 + s.size) := by omega
    go_wp2_with fail
    go_ret
    refine ⟨⟨_, rfl, ?_⟩, hb⟩
    rw [ByteArray.size_append]
    show 1 + s.size ≤ 3
    omega
theorem idx_run {s : By} {i : Nat} {x : UInt8} (h : s[i]? = some x) (w : World) : (Instr.index 9 (.string (baS s)) (.int .i64 (i : Int))).run Tryd.prog w = .ok (.int .u8 (x.toNat : Int)) w := by
  obtain ⟨hi, hx⟩ := List.getElem?_eq_some_iff.1 h
  rw [run_index_string w 9 (baS s) .i64 (i : Int) Tryd.underlying9, dif_pos ⟨by omega, by rw [baS_size]; omega⟩]
  congr 3
  subst hx
  rfl
theorem idx_run0 {x : UInt8} {s : By} (h : s[0]? = some x) (w : World) : (Instr.index 9 (.string (baS s)) (.int .i64 0)).run Tryd.prog w = .ok (.int .u8 (x.toNat : Int)) w := idx_run (i := 0) h w
theorem decF_step {x : UInt8} {n : Int} {s r : By} {i : Nat} (h : s[i]? = some x) (e : r = s.drop i) : decF n r = if digB x then decF (n * 10 + ((x.toNat : Int) - 48)) (s.drop (i + 1)) else none := by
  obtain ⟨hi, hx⟩ := List.getElem?_eq_some_iff.1 h
  rw [e, List.drop_eq_getElem_cons hi, hx]
  rfl
/-- What l41Dec answers. -/
def DecPost (s : By) (w : World) (e : Ending) (w' : World) : Prop := (∃ b : Bool, e = .returned (.tuple #[.int .i64 (decV s), .bool b])) ∧ Below w.heap.size w w'
set_option maxRecDepth 100000 in
set_option maxHeartbeats 4000000 in
theorem l41Dec_nil (w : World) : Calls Tryd.prog 47 #[.string (baS [])] w (DecPost [] w) := by
  have hB : Below w.heap.size w w := Below.refl _ _
  have hz : (baS []).size = 0 := by rw [baS_size]; rfl
  go_enter Tryd.func47, Tryd.ntmps47
  go_wp2_with fail
  go_ret2
  exact ⟨⟨_, rfl⟩, hB⟩
theorem dec_from {s : By} {x : UInt8} (hx : s[0]? = some x) : ∃ f : Nat, f ≤ 1 ∧ decV s = (if f + 2 < s.length then 0 else match decF 0 (s.drop f) with | none => 0 | some n => if f = 1 then -n else n) ∧
    ((f = 0 ∧ ¬ (1 < (s.length : Int))) ∨ (f = 0 ∧ 1 < (s.length : Int) ∧ (((x.toNat : Int) == 45) = false)) ∨ (f = 1 ∧ 1 < (s.length : Int) ∧ (((x.toNat : Int) == 45) = true))) := by
  have h1 : 1 ≤ s.length := by have := (List.getElem?_eq_some_iff.1 hx).1; omega
  have hh : s.head? = some x := by rw [← hx]; cases s <;> rfl
  have h0 : ¬ (s.length < 1) := by omega
  by_cases e2 : 1 < s.length
  · have e3 : (1 : Int) < (s.length : Int) := by omega
    by_cases e : x = 45
    · refine ⟨1, by omega, ?_, .inr (.inr ⟨rfl, e3, by subst e; rfl⟩)⟩
      subst e
      simp only [decV, hh, e2, h0]
      simp
      rfl
    · have h3 : (x.toNat : Int) ≠ 45 := fun h => e (UInt8.toNat_inj.1 (by show x.toNat = 45; omega))
      refine ⟨0, by omega, ?_, .inr (.inl ⟨rfl, e3, by simpa using h3⟩)⟩
      simp only [decV, hh, e2, h0]
      simp [e]
      rfl
  · refine ⟨0, by omega, ?_, .inl ⟨rfl, by omega⟩⟩
    simp only [decV, hh, e2, h0]
    simp
    rfl
set_option maxRecDepth 100000 in
set_option maxHeartbeats 800000 in
theorem l41Dec_one (s : By) (hl : s.length ≤ 100000) (x : UInt8) (hx : s[0]? = some x) (w : World) : Calls Tryd.prog 47 #[.string (baS s)] w (DecPost s w) := by
  have hB : Below w.heap.size w w := Below.refl _ _
  have hsz := baS_size s
  have h1 : 1 ≤ s.length := by have := (List.getElem?_eq_some_iff.1 hx).1; omega
  have h0 := fun w => idx_run0 hx w
  have g0 : ¬ ((s.length : Int) < 1) := by omega
  obtain ⟨f, hf, hv, hc⟩ := dec_from hx
  rcases Nat.lt_or_ge (f + 2) s.length with h2 | h2
  · have g2 : ((f : Int) + 2 < (s.length : Int)) := by omega
    have HX : Hid (decV s = 0) := by show decV s = 0; rw [hv, if_pos h2]
    rcases hc with ⟨rfl, g1⟩ | ⟨rfl, g1, g3⟩ | ⟨rfl, g1, g3⟩
    · omega
    all_goals
      clear hf hv
      go_enter Tryd.func47, Tryd.ntmps47
      go_wp2_with fail
      go_ret2
      exact ⟨⟨false, by rw [HX.out]; rfl⟩, hB⟩
  · have g2 : ¬ ((f : Int) + 2 < (s.length : Int)) := by omega
    rw [if_neg (by omega)] at hv
    have HV : Hid (decV s = match decF 0 (s.drop f) with | none => 0 | some n => if f = 1 then -n else n) := hv
    clear hv
    have HS : Hid (∀ i : Nat, i < s.length → ∃ y, s[i]? = some y) := fun i hi => ⟨_, List.getElem?_eq_some_iff.2 ⟨hi, rfl⟩⟩
    obtain ⟨f', hff⟩ : ∃ f' : Nat, f' = f := ⟨_, rfl⟩
    have HL : Hid (s.length ≤ f' + 2) := by show s.length ≤ f' + 2; omega
    rw [← hff] at HV
    rcases hc with ⟨rfl, g1⟩ | ⟨rfl, g1, g3⟩ | ⟨rfl, g1, g3⟩
    all_goals
      have HF := (show Hid (f' = _) from hff)
      clear hff hf h2
      go_enter Tryd.func47, Tryd.ntmps47
      go_wp2_with fail
      go_loopw [4, 6] (fun nv iv wr => ∃ i n : Nat, nv = .int .i64 n ∧ iv = .int .i64 i ∧ f' ≤ i ∧ i ≤ s.length ∧ ((i = f' ∧ n = 0) ∨ (i = f' + 1 ∧ n ≤ 9) ∨ (i = f' + 2 ∧ n ≤ 99)) ∧ decF 0 (s.drop f') = decF (n : Int) (s.drop i) ∧ wr = w) (fun _ iv _ => s.length - (intOf iv).toNat)
      case atStart =>
        have := HF.out
        first
        | exact ⟨0, 0, rfl, rfl, by omega, by omega, .inl ⟨by omega, rfl⟩, by rw [this]; rfl, rfl⟩
        | exact ⟨1, 0, rfl, rfl, by omega, by omega, .inl ⟨by omega, rfl⟩, by rw [this]; rfl, rfl⟩
      case round =>
        obtain ⟨i, n, rfl, rfl, hfi, hil, hn, hd, rfl⟩ := hrel
        have HN := (show Hid _ from hn)
        have HD := (show Hid _ from hd)
        have hn9 : n ≤ 99 := by omega
        clear hn hd
        by_cases hlt : i < s.length
        · have ik : (i : Int) < (s.length : Int) := by omega
          obtain ⟨y, hy⟩ := HS.out i hlt
          have hidx := fun w => idx_run hy w
          have HY := (show Hid (s[i]? = some y) from hy)
          clear hy
          by_cases hdg : digB y = true
          · have hdg2 : 48 ≤ y.toNat ∧ y.toNat ≤ 57 := by simpa [digB] using hdg
            have d1 : ¬ ((y.toNat : Int) < 48) := by omega
            have d2 : ¬ (57 < (y.toNat : Int)) := by omega
            have HN9 : Hid (n ≤ 9) := by have := HN.out; have := HL.out; show n ≤ 9; omega
            obtain ⟨dd, hdd, hdu⟩ : ∃ dd : Nat, IntKind.u8.wrap ((y.toNat : Int) - 48) = (dd : Int) ∧ dd = y.toNat - 48 := ⟨y.toNat - 48, by rw [IntKind.wrap_u8]; omega, rfl⟩
            obtain ⟨m, hm, hmu⟩ : ∃ m : Nat, IntKind.i64.wrap ((n : Int) * 10) = (m : Int) ∧ m = n * 10 := ⟨n * 10, by rw [IntKind.wrap_i64]; omega, rfl⟩
            obtain ⟨q, hq, hqu⟩ : ∃ q : Nat, wrap64 ((m : Int) + (dd : Int)) = (q : Int) ∧ q = m + dd := ⟨m + dd, by rw [IntWalk.wrap64_in _ (by omega)]; omega, rfl⟩
            have hdw : wrap64 (dd : Int) = (dd : Int) := IntWalk.wrap64_in _ (by omega)
            have HQ : Hid (q = n * 10 + (y.toNat - 48) ∧ 48 ≤ y.toNat ∧ y.toNat ≤ 57) := by show q = _ ∧ _; omega
            have HDG := (show Hid (digB y = true) from hdg)
            have HQ2 := (show Hid (wrap64 ((m : Int) + (dd : Int)) = (q : Int)) from hq)
            clear hdg hdu hmu hqu hdg2
            go_wp2_with fail
            go_roundw
            case rel =>
              have h1 := HQ.out
              have h2 := HN9.out
              have h3 := HN.out
              have h4 := HL.out
              refine ⟨i + 1, q, by rw [HQ2.out], by go_num, by omega, by omega, ?_, ?_, trivial⟩
              · omega
              · rw [HD.out, decF_step HY.out rfl, HDG.out, if_pos rfl]
                congr 1
                omega
            case measure => simp [intOf]; omega
          · have HX : Hid (decV s = 0) := by show decV s = 0; rw [HV.out, HD.out, decF_step HY.out rfl, if_neg hdg]
            have hdg2 : y.toNat < 48 ∨ (¬ y.toNat < 48 ∧ 57 < y.toNat) := by
              simp only [digB, Bool.and_eq_true, decide_eq_true_eq] at hdg; omega
            clear hdg
            rcases hdg2 with hdg2 | ⟨hdg1, hdg2⟩
            · have d1 : ((y.toNat : Int) < 48) := by omega
              go_wp2_with fail
              go_ret2
              exact ⟨⟨false, by rw [HX.out]; rfl⟩, hB⟩
            · have d1 : ¬ ((y.toNat : Int) < 48) := by omega
              have d2 : (57 < (y.toNat : Int)) := by omega
              go_wp2_with fail
              go_ret2
              exact ⟨⟨false, by rw [HX.out]; rfl⟩, hB⟩
        · have hie : i = s.length := by omega
          have ik : ¬ ((i : Int) < (s.length : Int)) := by omega
          have hneg : IntKind.i64.wrap (-(n : Int)) = -(n : Int) := by rw [IntKind.wrap_i64]; omega
          have HX : Hid (decV s = if f' = 1 then -(n : Int) else (n : Int)) := by
            show decV s = _
            rw [HV.out, HD.out, hie, List.drop_length]
            rfl
          have HLD := (show Hid _ from fun (z : Int) (h0 : -99 ≤ z) (h9 : z ≤ 99) => ldec_any h0 h9 wr)
          go_wp2_with fail
          refine Calls.mono (HLD.out _ (by omega) (by omega)) ?_
          rintro e w1 ⟨⟨ls, rfl, -⟩, hb⟩
          go_wp2_with fail
          go_ret2
          have hv := HX.out
          rw [HF.out] at hv
          first | rw [if_pos rfl] at hv | rw [if_neg (by decide)] at hv
          exact ⟨⟨_, by rw [hv]; rfl⟩, hb⟩
theorem l41Dec_any (s : By) (hl : s.length ≤ 100000) (w : World) : Calls Tryd.prog 47 #[.string (baS s)] w (DecPost s w) := by
  cases s with
  | nil => exact l41Dec_nil w
  | cons x xs => exact l41Dec_one _ hl x rfl w
end Go.Proofs.YtfofchgcbdbikaaDoor
