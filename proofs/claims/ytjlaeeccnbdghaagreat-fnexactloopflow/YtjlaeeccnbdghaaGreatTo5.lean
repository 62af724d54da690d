/- LoopStep of the model, where Counts are few: the contract. -/
import Derived.Test.YtjlaeeccnbdghaaGreatTo4
import Derived.Test.YtjlaeeccnbdghaaGreatGtX
import Derived.Deep.RegionHeld3
namespace Go.Proofs.YtjlaeeccnbdghaaGreat
open Go.RowKit
attribute [local go_sem ↓] Go.wp_at_zero Go.wp_at_succ

set_option maxRecDepth 100000 in
set_option maxHeartbeats 8000000 in
theorem l22Keys_any (v : Value) (l : List It) (w : World) (h : Is w v l) (hl : l.length ≤ 400) :
    Calls Tryz.prog 81 #[v] w fun e w' => ∃ o : Value, e = .returned o ∧ OwnI w' w.heap.size o (keysT l) ∧ Below w.heap.size w w' := by
  have oE := ownI_empty w rfl
  have hbE := bAlloc (Below.refl w.heap.size w) (.cells #[] 53)
  obtain ⟨a, c, rfl, hc, hm, hn, hcell⟩ := Is.open h
  unfold maxLen at hm
  have HC := (show Hid _ from hcell)
  clear hcell h
  go_enter Tryz.func81, Tryz.ntmps81
  go_wp2_with fail
  go_loopw [3, 4] (fun o i wr => ∃ k : Nat, k ≤ l.length ∧ i = .int .i64 k ∧ OwnI wr w.heap.size o (keysT (l.take k)) ∧ Below w.heap.size w wr) (fun _ i _ => l.length - (intOf i).toNat)
  case atStart => exact ⟨0, by omega, rfl, oE, hbE⟩
  case round =>
    clear oE hbE
    obtain ⟨k, hkl, rfl, hown, hb⟩ := hrel
    by_cases hlt : k < l.length
    · obtain ⟨g, off, K, V, D, rfl, hg, hr, c0, c1, c2⟩ := HC.out k hlt
      have ik : ((k : Int) < (l.length : Int)) := by omega
      have HZ := (show Hid _ from keysT_snoc hr)
      have hl2 : (keysT (l.take k)).length ≤ 2000000 := by unfold keysT; rw [List.length_map, List.length_take]; omega
      have HX : Hid (∀ W, Below w.heap.size w W → W.cell? ⟨g, off + k * 3, none⟩ = some (.int .i64 K) ∧ W.cell? ⟨g, off + k * 3 + 2, none⟩ = some (.int .i64 D)) := fun W hW => ⟨cell_below hW c0, cell_below hW c2⟩
      have hbD := hb.drew
      have OD : Hid (OwnI wr.drew w.heap.size u3 (keysT (l.take k))) := own_keep hown (Below.refl _ _).drew
      have hsza : ∀ ob : Obj, w.heap.size ≤ (wr.drew.alloc ob).heap.size := fun ob => (bAlloc hbD ob).size
      have HC2 : Hid (∀ (w7 : World) (ob : Obj), (wr.drew.alloc ob).grownBy w7 u3.ownBlock → Below w.heap.size w w7) := fun w7 ob h3 => Below.grew (bAlloc hbD _) h3 (bAlloc hbD ob).size (ownK_base OD.out)
      obtain ⟨d0, d2⟩ := HX.out _ hb
      clear c0 c1 c2 hr hown
      generalize keysT (l.take k) = LL at *
      go_wp2_with fail
      go_region_held3 (fun W => W.cell? ⟨g, off + k * 3, none⟩ = some (.int .i64 K) ∧ W.cell? ⟨g, off + k * 3 + 2, none⟩ = some (.int .i64 D))
        (first | exact HX.out _ hbD | exact HX.out _ (bAlloc hbD _) | exact HX.out _ hb7)
        (first
          | (refine stepI _ (by rfl) _ _ (by rfl) w.heap.size _ LL (by rfl) (OD.out.alloc _) _ K 0 D (by rfl) (Bk.new _ _ rfl) hl2 (hsza _) ?_; intro g7 cap7 w7 own7 hgrow hlg; have hb7 := HC2.out _ _ hgrow))
      all_goals
        go_wp2_with fail
        go_roundw
        case rel => exact ⟨k + 1, by omega, by go_num, by rw [HZ.out]; exact own7, hb7⟩
        case measure => simp [intOf]; omega
    · obtain rfl : k = l.length := by omega
      have HO : Hid (OwnI wr w.heap.size u3 (keysT l)) := by have := hown; rw [List.take_length] at this; exact this
      clear hown
      go_wp2_with fail
      go_ret
      exact ⟨_, rfl, HO.out, hb⟩
set_option maxRecDepth 100000 in
set_option maxHeartbeats 8000000 in
theorem l22Lead_few (v u : Value) (s t : List It) (w : World) (h : Is w v s) (h' : Is w u t) (hk : sokB s = true) (hk' : sokB t = true) (as' : absum s ≤ 562949953421312) (at' : absum t ≤ 600) :
    Calls Tryz.prog 82 #[v, u] w fun e w' => ∃ o : Value, e = .returned o ∧ OwnI w' w.heap.size o (leadT s t) ∧ Below w.heap.size w w' := by
  have oE := ownI_empty w rfl
  have hbE := bAlloc (Below.refl w.heap.size w) (.cells #[] 53)
  have hls := sok_len hk
  have hlt' := sok_len hk'
  have HKS : Hid (∀ (k : Nat) (x : Int × Int) (d : Int), s[k]? = some (x, d) → itK x ∧ -562949953421312 ≤ d ∧ d ≤ 562949953421312) := fun k x d hr => ⟨sok_k hk _ (List.mem_of_getElem? hr), by have := abs_mem hr; omega⟩
  have HKT : Hid (∀ (k : Nat) (x : Int × Int) (d : Int), t[k]? = some (x, d) → itK x ∧ -1000 ≤ d ∧ d ≤ 1000) := fun k x d hr => ⟨sok_k hk' _ (List.mem_of_getElem? hr), by have := abs_mem hr; omega⟩
  have HL : Hid (∀ i, (leadT (s.take i) t).length ≤ 160000) := fun i => by
    have h1 := leadT_len (s.take i) t
    have h2 : (s.take i).length * t.length ≤ 400 * 400 := Nat.mul_le_mul (by rw [List.length_take]; omega) hlt'
    omega
  obtain ⟨aS, cS, rfl, hcS, hmS, hnS, hcellS⟩ := Is.open h
  obtain ⟨aT, cT, rfl, hcT, hmT, hnT, hcellT⟩ := Is.open h'
  unfold maxLen at hmS hmT
  have HCS := (show Hid _ from hcellS)
  have HCT := (show Hid _ from hcellT)
  clear hcellS hcellT h h' hk hk'
  go_enter Tryz.func82, Tryz.ntmps82
  go_wp2_with fail
  go_loopw [5, 6] (fun o i wr => ∃ k : Nat, k ≤ s.length ∧ i = .int .i64 k ∧ OwnI wr w.heap.size o (leadT (s.take k) t) ∧ Below w.heap.size w wr) (fun _ i _ => s.length - (intOf i).toNat)
  case atStart => exact ⟨0, by omega, rfl, oE, hbE⟩
  case round =>
    clear oE hbE
    obtain ⟨i, his, rfl, hown, hb⟩ := hrel
    have HO : Hid (OwnI wr w.heap.size u5 (leadT (s.take i) t)) := hown
    clear hown
    by_cases hlt : i < s.length
    · obtain ⟨g, off, K, V, D, rfl, hg, hr, c0, c1, c2⟩ := HCS.out i hlt
      have ii : ((i : Int) < (s.length : Int)) := by omega
      have HZ := (show Hid _ from leadT_snoc (now := t) hr)
      obtain ⟨⟨i1, i2, i3, i4⟩, hD1, hD2⟩ := HKS.out i _ _ hr
      simp only at i1 i2 i3 i4
      have hPl := HL.out i
      clear hr
      generalize hP : leadT (s.take i) t = P at *
      clear hP
      go_wp2_with fail
      go_loopw [5, 7] (fun o i wr => ∃ k : Nat, k ≤ t.length ∧ i = .int .i64 k ∧ OwnI wr w.heap.size o (P ++ leadRow ((K, V), D) (t.take k)) ∧ Below w.heap.size w wr) (fun _ i _ => t.length - (intOf i).toNat)
      case atStart => exact ⟨0, by omega, rfl, by have := HO.out; simpa [leadRow] using this, hb⟩
      case round =>
        clear HO hb
        obtain ⟨k, hkt, rfl, hown, hb⟩ := hrel
        by_cases hlt2 : k < t.length
        · obtain ⟨g2, off2, K2, V2, D2, rfl, hg2, hr2, p0, p1, p2⟩ := HCT.out k hlt2
          have ik : ((k : Int) < (t.length : Int)) := by omega
          obtain ⟨-, hE1, hE2⟩ := HKT.out k _ _ hr2
          have hLL : (P ++ leadRow ((K, V), D) (t.take k)).length ≤ 500000 := by
            have := leadRow_len ((K, V), D) (t.take k)
            rw [List.length_append]; simp at this; omega
          have HX : Hid (∀ W, Below w.heap.size w W → W.cell? ⟨g, off + i * 3, none⟩ = some (.int .i64 K) ∧ W.cell? ⟨g, off + i * 3 + 1, none⟩ = some (.int .i64 V) ∧ W.cell? ⟨g, off + i * 3 + 2, none⟩ = some (.int .i64 D) ∧ W.cell? ⟨g2, off2 + k * 3, none⟩ = some (.int .i64 K2) ∧ W.cell? ⟨g2, off2 + k * 3 + 2, none⟩ = some (.int .i64 D2)) :=
            fun W hW => ⟨cell_below hW c0, cell_below hW c1, cell_below hW c2, cell_below hW p0, cell_below hW p2⟩
          obtain ⟨d0, d1, d2, d3, d5⟩ := HX.out _ hb
          by_cases hK : K = K2
          · have HY := (show Hid _ from leadRow_yes (tie := ((K, V), D)) hr2 hK.symm)
            subst hK
            have hmu := prod_mid ⟨hD1, hD2⟩ ⟨hE1, hE2⟩
            have iw : IntKind.i64.wrap (D * D2) = D * D2 := by rw [IntKind.wrap_i64] <;> omega
            have hrem : Int.tmod V 4 = V % 4 := Int.tmod_eq_emod_of_nonneg i3
            clear p0 p1 p2 hr2
            simp only at HY
            generalize hLLe : P ++ leadRow ((K, V), D) (t.take k) = LL at *
            have HLLe : Hid (P ++ leadRow ((K, V), D) (t.take k) = LL) := hLLe
            clear hLLe
            have HO2 : Hid (OwnI wr w.heap.size u5 LL) := hown
            clear hown
            go_wp2_with fail
            go_quiet (fail)
            have hbq : Below w.heap.size w (wr.drewN nq) := bDrewN hb _
            have hbD : Below w.heap.size w (wr.drewN (nq + 1)) := bDrewN hb _
            have hl2 : LL.length ≤ 2000000 := by omega
            have OD : Hid (OwnI (wr.drewN (nq + 1)) w.heap.size u5 LL) := own_keep HO2.out (bDrewN (Below.refl _ _) _)
            have hsza : ∀ ob : Obj, w.heap.size ≤ ((wr.drewN (nq + 1)).alloc ob).heap.size := fun ob => (bAlloc hbD ob).size
            have HC2 : Hid (∀ (w7 : World) (ob : Obj), ((wr.drewN (nq + 1)).alloc ob).grownBy w7 u5.ownBlock → Below w.heap.size w w7) := fun w7 ob h3 => Below.grew (bAlloc hbD _) h3 (bAlloc hbD ob).size (ownK_base OD.out)
            clear d0 d1 d2 d3 d5
            obtain ⟨d0, d1, d2, d3, d5⟩ := HX.out _ hbq
            go_wp2_with fail
            go_region_held3 (fun W => W.cell? ⟨g, off + i * 3, none⟩ = some (.int .i64 K) ∧ W.cell? ⟨g, off + i * 3 + 1, none⟩ = some (.int .i64 V) ∧ W.cell? ⟨g, off + i * 3 + 2, none⟩ = some (.int .i64 D) ∧ W.cell? ⟨g2, off2 + k * 3, none⟩ = some (.int .i64 K) ∧ W.cell? ⟨g2, off2 + k * 3 + 2, none⟩ = some (.int .i64 D2))
              (first | exact HX.out _ hbD | exact HX.out _ (bAlloc hbD _) | exact HX.out _ hb7)
              (first
                | (refine stepI _ (by rfl) _ _ (by rfl) w.heap.size _ LL (by rfl) (OD.out.alloc _) _ (V % 4) 0 (D * D2) (by rfl) (Bk.new _ _ rfl) hl2 (hsza _) ?_; intro g7 cap7 w7 own7 hgrow hlg; have hb7 := HC2.out _ _ hgrow))
            go_wp2_with fail
            go_roundw
            case rel => exact ⟨k + 1, by omega, by go_num, by rw [HY.out, ← List.append_assoc, HLLe.out]; exact own7, hb7⟩
            case measure => simp [intOf]; omega
          · have HY := (show Hid _ from leadRow_no (tie := ((K, V), D)) hr2 (fun e => hK e.symm))
            have nx : (K == K2) = false := beq_eq_false_iff_ne.2 hK
            have HO2 : Hid (OwnI wr w.heap.size u5 (P ++ leadRow ((K, V), D) (t.take k))) := hown
            clear p0 p1 p2 hr2 hown
            go_wp2_with fail
            go_quiet (fail)
            have hbq : Below w.heap.size w (wr.drewN nq) := bDrewN hb _
            go_wp2_with fail
            go_roundw
            case rel => exact ⟨k + 1, by omega, by go_num, by rw [HY.out]; exact own_keep HO2.out (bDrewN (Below.refl _ _) _), hbq⟩
            case measure => simp [intOf]; omega
        · obtain rfl : k = t.length := by omega
          rw [List.take_length] at hown
          rw [← HZ.out] at hown
          go_wp2_with fail
          go_roundw
          case rel => exact ⟨i + 1, by omega, by go_num, hown, hb⟩
          case measure => simp [intOf]; omega
    · obtain rfl : i = s.length := by omega
      have HO2 : Hid (OwnI wr w.heap.size u5 (leadT s t)) := by have := HO.out; rw [List.take_length] at this; exact this
      clear HO
      go_wp2_with fail
      go_ret
      exact ⟨_, rfl, HO2.out, hb⟩
end Go.Proofs.YtjlaeeccnbdghaaGreat
