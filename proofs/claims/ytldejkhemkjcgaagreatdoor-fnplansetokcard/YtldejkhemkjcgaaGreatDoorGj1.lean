import Derived.Test.YtldejkhemkjcgaaGreatDoorGtX
import Derived.Test.YtldejkhemkjcgaaGreatDoorGs7
import Derived.Deep.RegionHeld3
namespace Go.Proofs.YtldejkhemkjcgaaGreatDoor
open Go.RowKit
def rowT (x : It) (t : List It) : List It := (t.filter fun y => decide (x.1.1 = y.1.1)).map fun y => ((x.1.1, pv x.1.2 y.1.2), x.2 * y.2)
theorem pair_row (s t : List It) : pairT s t = s.flatMap fun x => rowT x t := rfl
theorem pair_snoc {s : List It} {i : Nat} {x : It} (t : List It) (h : s[i]? = some x) : pairT (s.take (i + 1)) t = pairT (s.take i) t ++ rowT x t := by
  rw [take_snoc h, pair_row, List.flatMap_append]; simp [pair_row]
theorem row_yes {t : List It} {k : Nat} {x y : It} (h : t[k]? = some y) (e : x.1.1 = y.1.1) : rowT x (t.take (k + 1)) = rowT x (t.take k) ++ [((x.1.1, pv x.1.2 y.1.2), x.2 * y.2)] := by
  unfold rowT; rw [take_snoc h, List.filter_append, List.map_append]; simp [e]
theorem row_no {t : List It} {k : Nat} {x y : It} (h : t[k]? = some y) (e : x.1.1 ≠ y.1.1) : rowT x (t.take (k + 1)) = rowT x (t.take k) := by
  unfold rowT; rw [take_snoc h, List.filter_append, List.map_append]; simp [e]
theorem row_len (x : It) (t : List It) : (rowT x t).length ≤ t.length := by
  unfold rowT; rw [List.length_map]; exact List.length_filter_le _ _
theorem prod_few {a b : Int} (ha : -1200000 ≤ a ∧ a ≤ 1200000) (hb : -1200000 ≤ b ∧ b ≤ 1200000) : -1440000000000 ≤ a * b ∧ a * b ≤ 1440000000000 := by
  have h1 : (a * b).natAbs ≤ 1200000 * 1200000 := by rw [Int.natAbs_mul]; exact Nat.mul_le_mul (by omega) (by omega)
  omega
theorem abs_mem {l : List It} {k : Nat} {r : It} (h : l[k]? = some r) : -absum l ≤ r.2 ∧ r.2 ≤ absum l := by
  induction l generalizing k with
  | nil => simp at h
  | cons q l ih =>
    have hp := absum_pos l
    cases k with
    | zero => simp at h; subst h; simp only [absum]; omega
    | succ k => simp at h; have := ih h; simp only [absum]; omega
theorem l3Pair_any {a b : Int} (ha : 0 ≤ a) (ha' : a ≤ 99) (hb : 0 ≤ b) (hb' : b ≤ 99) (w : World) :
    Calls Tryz.prog 128 #[.int .i64 a, .int .i64 b] w fun e w' => e = .returned (.int .i64 (pv a b)) ∧ Below w.heap.size w w' := by
  have i1 : IntKind.i64.wrap (a * 10) = a * 10 := by rw [IntKind.wrap_i64] <;> omega
  have i2 : IntKind.i64.wrap (a * 10 + b) = a * 10 + b := by rw [IntKind.wrap_i64] <;> omega
  have ht : (a * 10 + b).tmod 100 = pv a b := by unfold pv; rw [Int.tmod_eq_emod_of_nonneg (by omega)]; congr 1; omega
  have hv : 0 ≤ pv a b ∧ pv a b < 100 := by unfold pv; omega
  have i3 : IntKind.i64.wrap (pv a b) = pv a b := by rw [IntKind.wrap_i64] <;> omega
  generalize pv a b = P at *
  go_enter Tryz.func128, Tryz.ntmps128
  go_wp2_with fail
  go_ret
  exact ⟨rfl, Below.refl _ _⟩
end Go.Proofs.YtldejkhemkjcgaaGreatDoor
namespace Go.Proofs.YtldejkhemkjcgaaGreatDoor
open Go.RowKit
set_option maxRecDepth 100000 in
set_option maxHeartbeats 8000000 in
theorem specSetJoin_few (v u : Value) (s t : List It) (w : World) (h : Is w v s) (h' : Is w u t) (as' : absum s ≤ 1200000) (at' : absum t ≤ 1200000) :
    Calls Tryz.prog 120 #[v, u] w fun e w' => ∃ o : Value, e = .returned o ∧ OwnI w' w.heap.size o (joinS s t) ∧ Below w.heap.size w w' := by
  have oE := ownI_empty w rfl
  have hbE := bAlloc (Below.refl _ w) (.cells #[] 63)
  have hsE := hbE.size
  cases hk : sokB s
  · have HF : Hid (joinS s t = []) := joinS_no1 hk
    go_enter Tryz.func120, Tryz.ntmps120
    go_wp2_with fail
    refine (specSetOk_eq hk (h.keep hbE)).mono ?_
    rintro e w1 ⟨rfl, hb1⟩
    go_wp2_with fail
    go_ret
    refine ⟨_, rfl, ?_, bStep hbE hb1⟩
    rw [HF.out]
    exact own_keep oE hb1
  cases hk' : sokB t
  · have HF : Hid (joinS s t = []) := joinS_no2 hk'
    go_enter Tryz.func120, Tryz.ntmps120
    go_wp2_with fail
    refine (specSetOk_eq hk (h.keep hbE)).mono ?_
    rintro e w1 ⟨rfl, hb1⟩
    have hbw1 := bStep hbE hb1
    go_wp2_with fail
    refine (specSetOk_eq hk' (h'.keep hbw1)).mono ?_
    rintro e w2 ⟨rfl, hb2⟩
    go_wp2_with fail
    go_ret
    refine ⟨_, rfl, ?_, bStep hbw1 hb2⟩
    rw [HF.out]
    exact own_keep (own_keep oE hb1) hb2
  have HF : Hid (joinS s t = sumL ltT (pairT s t)) := joinS_yes hk hk'
  have hls := sok_len hk
  have hlt' := sok_len hk'
  have HKS : Hid (∀ (k : Nat) (x : Int × Int) (d : Int), s[k]? = some (x, d) → itK x) := fun k x d hr => sok_k hk _ (List.mem_of_getElem? hr)
  have HKT : Hid (∀ (k : Nat) (x : Int × Int) (d : Int), t[k]? = some (x, d) → itK x) := fun k x d hr => sok_k hk' _ (List.mem_of_getElem? hr)
  have HL : Hid (∀ i, (pairT (s.take i) t).length ≤ 160000) := fun i => by
    have h1 := pair_len (s.take i) t
    have h2 : (s.take i).length * t.length ≤ 400 * 400 := Nat.mul_le_mul (by rw [List.length_take]; omega) hlt'
    omega
  have HA : Hid (absum (pairT s t) ≤ 2305843009213693952) := by
    have h1 := pair_abs s t
    have h2 : absum s * absum t ≤ 1200000 * 1200000 := Int.mul_le_mul as' at' (absum_pos t) (by omega)
    show _ ≤ _; omega
  have HAS : Hid (∀ (k : Nat) (r : It), s[k]? = some r → -1200000 ≤ r.2 ∧ r.2 ≤ 1200000) := fun k r hr => by have := abs_mem hr; omega
  have HAT : Hid (∀ (k : Nat) (r : It), t[k]? = some r → -1200000 ≤ r.2 ∧ r.2 ≤ 1200000) := fun k r hr => by have := abs_mem hr; omega
  go_enter Tryz.func120, Tryz.ntmps120
  go_wp2_with fail
  refine (specSetOk_eq hk (h.keep hbE)).mono ?_
  rintro e w1 ⟨rfl, hb1⟩
  have hbw1 := bStep hbE hb1
  go_wp2_with fail
  refine (specSetOk_eq hk' (h'.keep hbw1)).mono ?_
  rintro e w2 ⟨rfl, hb2⟩
  have hbw2 := bStep hbw1 hb2
  have O0 : OwnI w2 w.heap.size _ [] := own_keep (own_keep oE hb1) hb2
  obtain ⟨aS, cS, rfl, hcS, hmS, hnS, hcellS⟩ := Is.open h
  obtain ⟨aT, cT, rfl, hcT, hmT, hnT, hcellT⟩ := Is.open h'
  unfold maxLen at hmS hmT
  have HCS := (show Hid _ from hcellS)
  have HCT := (show Hid _ from hcellT)
  clear hcellS hcellT h h' hk hk' oE hbE hsE hb1 hb2 hbw1
  go_wp2_with fail
  go_loopw [5, 6] (fun o i wr => ∃ k : Nat, k ≤ s.length ∧ i = .int .i64 k ∧ OwnI wr w.heap.size o (pairT (s.take k) t) ∧ Below w.heap.size w wr) (fun _ i _ => s.length - (intOf i).toNat)
  case atStart => exact ⟨0, by omega, rfl, O0, hbw2⟩
  case round =>
    clear O0 hbw2
    obtain ⟨i, his, rfl, hown, hb⟩ := hrel
    have HO : Hid (OwnI wr w.heap.size u5 (pairT (s.take i) t)) := hown
    clear hown
    by_cases hlt : i < s.length
    · obtain ⟨g, off, K, V, D, rfl, hg, hr, c0, c1, c2⟩ := HCS.out i hlt
      have ii : ((i : Int) < (s.length : Int)) := by omega
      have HZ := (show Hid _ from pair_snoc t hr)
      have hit := HKS.out i _ _ hr
      obtain ⟨i1, i2, i3, i4⟩ := hit
      simp only at i1 i2 i3 i4
      obtain ⟨hD1, hD2⟩ := HAS.out i _ hr
      simp only at hD1 hD2
      have hPl := HL.out i
      clear hr
      generalize hP : pairT (s.take i) t = P at *
      clear hP
      go_wp2_with fail
      go_loopw [5, 7] (fun o i wr => ∃ k : Nat, k ≤ t.length ∧ i = .int .i64 k ∧ OwnI wr w.heap.size o (P ++ rowT ((K, V), D) (t.take k)) ∧ Below w.heap.size w wr) (fun _ i _ => t.length - (intOf i).toNat)
      case atStart => exact ⟨0, by omega, rfl, by have := HO.out; simpa [rowT] using this, hb⟩
      case round =>
        clear HO hb
        obtain ⟨k, hkt, rfl, hown, hb⟩ := hrel
        by_cases hlt2 : k < t.length
        · obtain ⟨g2, off2, K2, V2, D2, rfl, hg2, hr2, p0, p1, p2⟩ := HCT.out k hlt2
          have ik : ((k : Int) < (t.length : Int)) := by omega
          obtain ⟨j1, j2, j3, j4⟩ := HKT.out k _ _ hr2
          simp only at j1 j2 j3 j4
          obtain ⟨hE1, hE2⟩ := HAT.out k _ hr2
          simp only at hE1 hE2
          have hLL : (P ++ rowT ((K, V), D) (t.take k)).length ≤ 500000 := by
            have := row_len ((K, V), D) (t.take k)
            rw [List.length_append]; simp at this; omega
          have HX : Hid (∀ W, Below w.heap.size w W → W.cell? ⟨g, off + i * 3, none⟩ = some (.int .i64 K) ∧ W.cell? ⟨g, off + i * 3 + 1, none⟩ = some (.int .i64 V) ∧ W.cell? ⟨g, off + i * 3 + 2, none⟩ = some (.int .i64 D) ∧ W.cell? ⟨g2, off2 + k * 3, none⟩ = some (.int .i64 K2) ∧ W.cell? ⟨g2, off2 + k * 3 + 1, none⟩ = some (.int .i64 V2) ∧ W.cell? ⟨g2, off2 + k * 3 + 2, none⟩ = some (.int .i64 D2)) :=
            fun W hW => ⟨cell_below hW c0, cell_below hW c1, cell_below hW c2, cell_below hW p0, cell_below hW p1, cell_below hW p2⟩
          obtain ⟨d0, d1, d2, d3, d4, d5⟩ := HX.out _ hb
          by_cases hK : K = K2
          · subst hK
            have HY := (show Hid _ from row_yes (x := ((K, V), D)) hr2 rfl)
            have hmu := prod_few ⟨hD1, hD2⟩ ⟨hE1, hE2⟩
            have iw : IntKind.i64.wrap (D * D2) = D * D2 := by rw [IntKind.wrap_i64] <;> omega
            clear p0 p1 p2 hr2
            simp only at HY
            generalize hLLe : P ++ rowT ((K, V), D) (t.take k) = LL at *
            have HLLe : Hid (P ++ rowT ((K, V), D) (t.take k) = LL) := hLLe
            clear hLLe
            have HO2 : Hid (OwnI wr w.heap.size u5 LL) := hown
            clear hown
            go_wp2_with fail
            go_quiet (fail)
            have hbq : Below w.heap.size w (wr.drewN nq) := bDrewN hb _
            have hbD : Below w.heap.size w (wr.drewN (nq + 1)) := bDrewN hb _
            have hl2 : LL.length ≤ 2000000 := by omega
            have OD : Hid (OwnI (wr.drewN (nq + 1)) w.heap.size u5 LL) := own_keep HO2.out (bDrewN (Below.refl _ _) _)
            have HC1 : Hid (∀ wc, Below (wr.drewN (nq + 1)).heap.size (wr.drewN (nq + 1)) wc → Below w.heap.size w wc ∧ (∀ ob : Obj, w.heap.size ≤ (wc.alloc ob).heap.size) ∧ OwnI wc w.heap.size u5 LL) := fun wc hbc =>
              ⟨bStep hbD hbc, fun ob => (bAlloc (bStep hbD hbc) ob).size, own_keep OD.out hbc⟩
            have HC2 : Hid (∀ (wc w7 : World) (ob : Obj), Below w.heap.size w wc → OwnI wc w.heap.size u5 LL → (wc.alloc ob).grownBy w7 u5.ownBlock → Below w.heap.size w w7) := fun wc w7 ob h1 h2 h3 =>
              Below.grew (bAlloc h1 _) h3 (bAlloc h1 ob).size (ownK_base h2)
            clear d0 d1 d2 d3 d4 d5
            obtain ⟨d0, d1, d2, d3, d4, d5⟩ := HX.out _ hbq
            go_wp2_with fail
            go_region_held3 (fun W => W.cell? ⟨g, off + i * 3, none⟩ = some (.int .i64 K) ∧ W.cell? ⟨g, off + i * 3 + 1, none⟩ = some (.int .i64 V) ∧ W.cell? ⟨g, off + i * 3 + 2, none⟩ = some (.int .i64 D) ∧ W.cell? ⟨g2, off2 + k * 3, none⟩ = some (.int .i64 K) ∧ W.cell? ⟨g2, off2 + k * 3 + 1, none⟩ = some (.int .i64 V2) ∧ W.cell? ⟨g2, off2 + k * 3 + 2, none⟩ = some (.int .i64 D2))
              (first | exact HX.out _ hbD | exact HX.out _ hbc2 | exact HX.out _ (bAlloc hbc2 _) | exact HX.out _ hb7)
              (first
                | (go_at_call 128; with_reducible refine (l3Pair_any i3 i4 j3 j4 _).mono ?_; rintro e wc ⟨rfl, hbc⟩; obtain ⟨hbc2, hsza, OC⟩ := HC1.out _ hbc)
                | (refine stepI _ (by rfl) _ _ (by rfl) w.heap.size _ LL (by rfl) (OC.alloc _) _ K (pv V V2) (D * D2) (by rfl) (Bk.new _ _ rfl) hl2 (hsza _) ?_; intro g7 cap7 w7 own7 hgrow hlg; have hb7 := HC2.out _ _ _ hbc2 OC hgrow))
            go_wp2_with fail
            go_roundw
            case rel => exact ⟨k + 1, by omega, by go_num, by rw [HY.out, ← List.append_assoc, HLLe.out]; exact own7, hb7⟩
            case measure => simp [intOf]; omega
          · have HY := (show Hid _ from row_no (x := ((K, V), D)) hr2 hK)
            have nx : (K == K2) = false := beq_eq_false_iff_ne.2 hK
            have HO2 : Hid (OwnI wr w.heap.size u5 (P ++ rowT ((K, V), D) (t.take k))) := hown
            clear p0 p1 p2 hr2 hown
            go_wp2_with fail
            go_quiet (fail)
            have hbq : Below w.heap.size w (wr.drewN nq) := bDrewN hb _
            go_wp2_with fail
            go_roundw
            case rel => exact ⟨k + 1, by omega, by go_num, by rw [HY.out]; exact own_keep HO2.out (bDrewN (Below.refl _ _) _), hbq⟩
            case measure => simp [intOf]; omega
        · obtain rfl : k = t.length := by omega
          rw [List.take_length] at hown
          rw [← HZ.out] at hown
          go_wp2_with fail
          go_roundw
          case rel => exact ⟨i + 1, by omega, by go_num, hown, hb⟩
          case measure => simp [intOf]; omega
    · obtain rfl : i = s.length := by omega
      have hle := HL.out s.length
      have R1 : Is wr u5 (pairT s t) := by have := HO.out; rw [List.take_length] at this hle; exact OwnI.is this (by omega)
      rw [List.take_length] at hle
      have hsz := hb.size
      clear HO
      go_wp2_with fail
      refine (l2Items_any _ (pairT s t) _ R1 (by omega) HA.out).mono ?_
      rintro e w3 ⟨o3, rfl, own3, hb3⟩
      have O3 : Hid (OwnI w3 wr.heap.size o3 (sumL ltT (pairT s t))) := own3
      clear own3
      go_wp2_with fail
      go_ret
      refine ⟨_, rfl, ?_, bStep hb hb3⟩
      rw [HF.out]
      exact own_less O3.out hsz
end Go.Proofs.YtldejkhemkjcgaaGreatDoor
namespace Go.Proofs.YtldejkhemkjcgaaGreatDoor
open Go.RowKit
set_option maxRecDepth 100000 in
theorem pairVal_any {a b : Int} (ha : 0 ≤ a) (ha' : a ≤ 99) (hb : 0 ≤ b) (hb' : b ≤ 99) (w : World) :
    Calls Tryz.prog 141 #[.int .i64 a, .int .i64 b] w fun e w' => e = .returned (.int .i64 (pv a b)) ∧ Below w.heap.size w w' := by
  have i1 : IntKind.i64.wrap (10 * a) = 10 * a := by rw [IntKind.wrap_i64] <;> omega
  have i2 : IntKind.i64.wrap (10 * a + b) = 10 * a + b := by rw [IntKind.wrap_i64] <;> omega
  go_enter Tryz.func141, Tryz.ntmps141
  go_wp2_with fail
  refine (valOf_any (10 * a + b) _).mono ?_
  rintro e w1 ⟨rfl, hb1⟩
  go_wp2_with fail
  go_ret
  exact ⟨rfl, hb1⟩
end Go.Proofs.YtldejkhemkjcgaaGreatDoor
