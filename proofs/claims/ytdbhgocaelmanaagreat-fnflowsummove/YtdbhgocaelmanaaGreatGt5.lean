import Derived.Test.YtdbhgocaelmanaaGreatGt2
import Derived.Test.YtdbhgocaelmanaaGreatGs7
import Derived.Test.YtdbhgocaelmanaaGreatGs2
namespace Go.Proofs.YtdbhgocaelmanaaGreat
open Go.RowKit Go.Shelf
open Go.ChangeMaps (setBlock)
theorem Bx.putMap {g : Nat} {a w : World} (h : Bx g a w) (o : Obj) : Bx g a (setBlock w g o) :=
  h.trans ⟨rfl, rfl, rfl, by rw [size_setBlock]; exact Nat.le_refl _, fun _ _ hg => setBlock_at hg⟩
theorem it_th {s : Int × Int} (h : itK s) : thOk s := by
  obtain ⟨h1, h2, h3, h4⟩ := h
  exact ⟨by unfold fit63; omega, by unfold fit63; omega⟩
end Go.Proofs.YtdbhgocaelmanaaGreat
namespace Go.Proofs.YtdbhgocaelmanaaGreat
open Go.RowKit
theorem Bk.quad {w : World} {k : Nat} {x0 x1 x2 x3 : Value} {t : TypeId} (h : Bk w k #[x0, x1, x2, x3] t) :
    w.cell? ⟨k, 0, none⟩ = some x0 ∧ w.cell? ⟨k, 1, none⟩ = some x1 ∧ w.cell? ⟨k, 2, none⟩ = some x2 ∧ w.cell? ⟨k, 3, none⟩ = some x3 := by
  unfold Bk at h; simp [World.cell?, h]
theorem idx4_0 (n0 n1 n2 n3 : Int) (u : World) : (Instr.index 161 (.agg #[.int .i64 n0, .int .i64 n1, .int .i64 n2, .int .i64 n3]) (.int .i64 0)).run Tryz.prog u = .ok (.int .i64 n0) u := by kernel_rfl
theorem idx4_1 (n0 n1 n2 n3 : Int) (u : World) : (Instr.index 161 (.agg #[.int .i64 n0, .int .i64 n1, .int .i64 n2, .int .i64 n3]) (.int .i64 1)).run Tryz.prog u = .ok (.int .i64 n1) u := by kernel_rfl
theorem idx4_2 (n0 n1 n2 n3 : Int) (u : World) : (Instr.index 161 (.agg #[.int .i64 n0, .int .i64 n1, .int .i64 n2, .int .i64 n3]) (.int .i64 2)).run Tryz.prog u = .ok (.int .i64 n2) u := by kernel_rfl
theorem idx4_3 (n0 n1 n2 n3 : Int) (u : World) : (Instr.index 161 (.agg #[.int .i64 n0, .int .i64 n1, .int .i64 n2, .int .i64 n3]) (.int .i64 3)).run Tryz.prog u = .ok (.int .i64 n3) u := by kernel_rfl
set_option maxRecDepth 100000 in
set_option maxHeartbeats 16000000 in
theorem implSetCount_any (v : Value) (l : List It) (w : World) (h : Is w v l) :
    Calls Tryz.prog 86 #[v] w fun e w' => ∃ o : Value, e = .returned o ∧ OwnI w' w.heap.size o (countS l) ∧ Below w.heap.size w w' := by
  cases hk : sokB l
  · have HF : Hid (countS l = []) := countS_no hk
    go_enter Tryz.func86, Tryz.ntmps86
    go_wp2_with fail
    refine (implSetOk_eq hk h).mono ?_
    rintro e w1 ⟨rfl, hb1⟩
    go_wp2_with fail
    go_ret
    refine ⟨_, rfl, ?_, hb1⟩
    rw [HF.out]
    exact ownK_nil _ _ _ _ _
  have HF : Hid (countS l = accF (countK l) 4) := by show _ = _; rw [accF_four]; exact countS_yes hk
  have hl := sok_len hk
  have HN : Hid (∀ (k : Nat) (key : Int), -(1099511627776 * 400) ≤ keyN (l.take k) key ∧ keyN (l.take k) key ≤ 1099511627776 * 400) := fun k key => by
    have h1 := keyN_abs (l.take k) key; have h2 := sok_take hk k; omega
  have HP : Hid (∀ (k : Nat) (K V D : Int), l[k]? = some ((K, V), D) → 0 ≤ K ∧ K ≤ 3 ∧ -1099511627776 ≤ D ∧ D ≤ 1099511627776) := fun k K V D hr => by
    have := it_parts (sok_at hk (List.mem_of_getElem? hr)); simp only at this; omega
  go_enter Tryz.func86, Tryz.ntmps86
  go_wp2_with fail
  refine (implSetOk_eq hk h).mono ?_
  rintro e w1 ⟨rfl, hb1⟩
  have hs1 := hb1.size
  obtain ⟨a, cap, rfl, hc, hm, hn, hcells⟩ := Is.open (h.keep hb1)
  unfold maxLen at hm
  have HC := (show Hid _ from hcells)
  clear hcells h hk
  have b0 : Bk (w1.alloc (.cells #[.int .i64 0, .int .i64 0, .int .i64 0, .int .i64 0] 161)) w1.heap.size #[.int .i64 0, .int .i64 0, .int .i64 0, .int .i64 0] 161 := Bk.new _ _ rfl
  have hb0 : Below w1.heap.size w1 (w1.alloc (.cells #[.int .i64 0, .int .i64 0, .int .i64 0, .int .i64 0] 161)) := bAlloc (Below.refl _ _) _
  go_wp2_with fail
  go_loopw [14] (fun i wr => ∃ k : Nat, k ≤ l.length ∧ i = .int .i64 k ∧ Bk wr w1.heap.size #[.int .i64 (keyN (l.take k) 0), .int .i64 (keyN (l.take k) 1), .int .i64 (keyN (l.take k) 2), .int .i64 (keyN (l.take k) 3)] 161 ∧ Below w1.heap.size w1 wr) (fun i _ => l.length - (intOf i).toNat)
  case atStart => exact ⟨0, by omega, rfl, b0, hb0⟩
  case round =>
    clear b0 hb0
    obtain ⟨k, hkl, rfl, hbk, hb⟩ := hrel
    obtain ⟨m0, m0'⟩ := HN.out k 0
    obtain ⟨m1, m1'⟩ := HN.out k 1
    obtain ⟨m2, m2'⟩ := HN.out k 2
    obtain ⟨m3, m3'⟩ := HN.out k 3
    have hsz := hb.size
    have hlw := hbk.lt
    by_cases hlt : k < l.length
    · obtain ⟨g, off, K, V, D, rfl, hg, hr, c0, c1, c2⟩ := HC.out k hlt
      obtain ⟨p0, p1, p2, p3⟩ := HP.out k _ _ _ hr
      have d0 := cell_below hb c0
      have d1 := cell_below hb c1
      have d2 := cell_below hb c2
      have ik : ((k : Int) < (l.length : Int)) := by omega
      have HK : Hid (keyN (l.take (k + 1)) 0 = keyN (l.take k) 0 + (if K = 0 then D else 0) ∧ keyN (l.take (k + 1)) 1 = keyN (l.take k) 1 + (if K = 1 then D else 0) ∧ keyN (l.take (k + 1)) 2 = keyN (l.take k) 2 + (if K = 2 then D else 0) ∧ keyN (l.take (k + 1)) 3 = keyN (l.take k) 3 + (if K = 3 then D else 0)) := by rw [take_snoc hr]; exact ⟨keyN_snoc _ _ _, keyN_snoc _ _ _, keyN_snoc _ _ _, keyN_snoc _ _ _⟩
      have bx := Bk.new (w := wr) #[.int .i64 K, .int .i64 V, .int .i64 D] 96 rfl
      have hbx : Below w1.heap.size w1 (wr.alloc (.cells #[.int .i64 K, .int .i64 V, .int .i64 D] 96)) := bAlloc hb _
      have bs := hbk.alloc (.cells #[.int .i64 K, .int .i64 V, .int .i64 D] 96)
      clear c0 c1 c2 hr hbk
      generalize keyN (l.take k) 0 = n0 at *
      generalize keyN (l.take k) 1 = n1 at *
      generalize keyN (l.take k) 2 = n2 at *
      generalize keyN (l.take k) 3 = n3 at *
      go_upto_region 7 with fail
      clear d0 d1 d2
      generalize wr.heap.size = tb at *
      generalize World.alloc _ _ = wx at *
      obtain ⟨q0, q1, q2⟩ := bx.three
      obtain ⟨s0, s1, s2, s3⟩ := bs.quad
      obtain rfl | rfl | rfl | rfl : K = 0 ∨ K = 1 ∨ K = 2 ∨ K = 3 := by omega
      · have iw : IntKind.i64.wrap (n0 + D) = n0 + D := by rw [IntKind.wrap_i64]; omega
        have fj := bs.free 0
        go_region
        have bs2 := (bs.set 0 (.int .i64 (n0 + D))).drew
        have hb2 : Below w1.heap.size w1 (wx.setCell ⟨w1.heap.size, 0, none⟩ (.int .i64 (n0 + D))).drew := (hbx.setCell (by simp) _).drew
        generalize (wx.setCell ⟨w1.heap.size, 0, none⟩ (.int .i64 (n0 + D))).drew = w7 at *
        obtain ⟨e0, e1, e2, e3⟩ := HK.out
        have HE : Hid (keyN (l.take (k + 1)) 0 = n0 + D ∧ keyN (l.take (k + 1)) 1 = n1 ∧ keyN (l.take (k + 1)) 2 = n2 ∧ keyN (l.take (k + 1)) 3 = n3) := ⟨by rw [e0]; simp, by rw [e1]; simp, by rw [e2]; simp, by rw [e3]; simp⟩
        clear e0 e1 e2 e3 q0 q1 q2 s0 s1 s2 s3 fj
        go_wp2_with fail
        go_roundw
        case rel =>
          refine ⟨k + 1, by omega, by go_num, ?_, hb2⟩
          rw [HE.out.1, HE.out.2.1, HE.out.2.2.1, HE.out.2.2.2]
          exact bs2
        case measure => simp [intOf]; omega
      · have iw : IntKind.i64.wrap (n1 + D) = n1 + D := by rw [IntKind.wrap_i64]; omega
        have fj := bs.free 1
        go_region
        have bs2 := (bs.set 1 (.int .i64 (n1 + D))).drew
        have hb2 : Below w1.heap.size w1 (wx.setCell ⟨w1.heap.size, 1, none⟩ (.int .i64 (n1 + D))).drew := (hbx.setCell (by simp) _).drew
        generalize (wx.setCell ⟨w1.heap.size, 1, none⟩ (.int .i64 (n1 + D))).drew = w7 at *
        obtain ⟨e0, e1, e2, e3⟩ := HK.out
        have HE : Hid (keyN (l.take (k + 1)) 0 = n0 ∧ keyN (l.take (k + 1)) 1 = n1 + D ∧ keyN (l.take (k + 1)) 2 = n2 ∧ keyN (l.take (k + 1)) 3 = n3) := ⟨by rw [e0]; simp, by rw [e1]; simp, by rw [e2]; simp, by rw [e3]; simp⟩
        clear e0 e1 e2 e3 q0 q1 q2 s0 s1 s2 s3 fj
        go_wp2_with fail
        go_roundw
        case rel =>
          refine ⟨k + 1, by omega, by go_num, ?_, hb2⟩
          rw [HE.out.1, HE.out.2.1, HE.out.2.2.1, HE.out.2.2.2]
          exact bs2
        case measure => simp [intOf]; omega
      · have iw : IntKind.i64.wrap (n2 + D) = n2 + D := by rw [IntKind.wrap_i64]; omega
        have fj := bs.free 2
        go_region
        have bs2 := (bs.set 2 (.int .i64 (n2 + D))).drew
        have hb2 : Below w1.heap.size w1 (wx.setCell ⟨w1.heap.size, 2, none⟩ (.int .i64 (n2 + D))).drew := (hbx.setCell (by simp) _).drew
        generalize (wx.setCell ⟨w1.heap.size, 2, none⟩ (.int .i64 (n2 + D))).drew = w7 at *
        obtain ⟨e0, e1, e2, e3⟩ := HK.out
        have HE : Hid (keyN (l.take (k + 1)) 0 = n0 ∧ keyN (l.take (k + 1)) 1 = n1 ∧ keyN (l.take (k + 1)) 2 = n2 + D ∧ keyN (l.take (k + 1)) 3 = n3) := ⟨by rw [e0]; simp, by rw [e1]; simp, by rw [e2]; simp, by rw [e3]; simp⟩
        clear e0 e1 e2 e3 q0 q1 q2 s0 s1 s2 s3 fj
        go_wp2_with fail
        go_roundw
        case rel =>
          refine ⟨k + 1, by omega, by go_num, ?_, hb2⟩
          rw [HE.out.1, HE.out.2.1, HE.out.2.2.1, HE.out.2.2.2]
          exact bs2
        case measure => simp [intOf]; omega
      · have iw : IntKind.i64.wrap (n3 + D) = n3 + D := by rw [IntKind.wrap_i64]; omega
        have fj := bs.free 3
        go_region
        have bs2 := (bs.set 3 (.int .i64 (n3 + D))).drew
        have hb2 : Below w1.heap.size w1 (wx.setCell ⟨w1.heap.size, 3, none⟩ (.int .i64 (n3 + D))).drew := (hbx.setCell (by simp) _).drew
        generalize (wx.setCell ⟨w1.heap.size, 3, none⟩ (.int .i64 (n3 + D))).drew = w7 at *
        obtain ⟨e0, e1, e2, e3⟩ := HK.out
        have HE : Hid (keyN (l.take (k + 1)) 0 = n0 ∧ keyN (l.take (k + 1)) 1 = n1 ∧ keyN (l.take (k + 1)) 2 = n2 ∧ keyN (l.take (k + 1)) 3 = n3 + D) := ⟨by rw [e0]; simp, by rw [e1]; simp, by rw [e2]; simp, by rw [e3]; simp⟩
        clear e0 e1 e2 e3 q0 q1 q2 s0 s1 s2 s3 fj
        go_wp2_with fail
        go_roundw
        case rel =>
          refine ⟨k + 1, by omega, by go_num, ?_, hb2⟩
          rw [HE.out.1, HE.out.2.1, HE.out.2.2.1, HE.out.2.2.2]
          exact bs2
        case measure => simp [intOf]; omega
    · obtain rfl : k = l.length := by omega
      rw [List.take_length] at hbk m0 m0' m1 m1' m2 m2' m3 m3'
      obtain ⟨s0, s1, s2, s3⟩ := hbk.quad
      have HK : Hid (countK l 0 = (if keyN l 0 = 0 then [] else [((0, keyN l 0 % 100), 1)]) ∧ countK l 1 = (if keyN l 1 = 0 then [] else [((1, keyN l 1 % 100), 1)]) ∧ countK l 2 = (if keyN l 2 = 0 then [] else [((2, keyN l 2 % 100), 1)]) ∧ countK l 3 = (if keyN l 3 = 0 then [] else [((3, keyN l 3 % 100), 1)])) := ⟨rfl, rfl, rfl, rfl⟩
      have hbw := bStep hb1 hb
      have hsw := hbw.size
      clear hbk HC HP HN
      generalize keyN l 0 = n0 at *
      generalize keyN l 1 = n1 at *
      generalize keyN l 2 = n2 at *
      generalize keyN l 3 = n3 at *
      have HL : Hid (∀ k : Nat, (accF (countK l) k).length ≤ k * 1) := accF_len (fun k => countK_len l k)
      have HZ : Hid (accF (countK l) 1 = accF (countK l) 0 ++ countK l 0 ∧ accF (countK l) 2 = accF (countK l) 1 ++ countK l 1 ∧ accF (countK l) 3 = accF (countK l) 2 ++ countK l 2 ∧ accF (countK l) 4 = accF (countK l) 3 ++ countK l 3) := ⟨rfl, rfl, rfl, rfl⟩
      obtain ⟨W, hW⟩ : ∃ W, W = wr := ⟨_, rfl⟩
      subst hW
      go_wp2_with fail
      go_loopw [6, 28] (fun o i wz => ∃ k : Nat, k ≤ 4 ∧ i = .int .i64 k ∧ OwnI wz W.heap.size o (accF (countK l) k) ∧ Below W.heap.size W wz) (fun _ i _ => 4 - (intOf i).toNat)
      case atStart => exact ⟨0, by omega, rfl, ownK_nil _ _ _ _ _, Below.refl _ _⟩
      case round =>
        clear s0 s1 s2 s3
        obtain ⟨k, hk4, rfl, hown, hbz⟩ := hrel
        have HO : Hid (OwnI wr W.heap.size u6 (accF (countK l) k)) := hown
        have h1 := HL.out k
        have hzs := hbz.size
        clear hown
        by_cases hlt : k < 4
        · obtain rfl | rfl | rfl | rfl : k = 0 ∨ k = 1 ∨ k = 2 ∨ k = 3 := by omega
          · by_cases hz : n0 = 0
            · subst hz
              have ix := idx4_0 0 n1 n2 n3
              have HQ : Hid (accF (countK l) (0 + 1) = accF (countK l) 0) := by show _ = _; rw [HZ.out.1, HK.out.1, if_pos rfl, List.append_nil]
              generalize accF (countK l) 0 = LL at *
              go_wp2_with fail
              go_roundw
              case rel => exact ⟨0 + 1, by omega, by go_num, by rw [HQ.out]; exact HO.out, hbz⟩
              case measure => simp [intOf]
            · have nz : (n0 == 0) = false := by simpa using hz
              have ix := idx4_0 n0 n1 n2 n3
              have HQ : Hid (accF (countK l) (0 + 1) = accF (countK l) 0 ++ [((0, n0 % 100), 1)]) := by show _ = _; rw [HZ.out.1, HK.out.1, if_neg hz]
              go_wp2_with fail
              refine (valOf_any n0 _).mono ?_
              rintro e w8 ⟨rfl, hb8⟩
              have hbn := bStep hbz hb8
              have hsn := hbn.size
              have O2 : OwnI w8 W.heap.size u6 (accF (countK l) 0) := own_keep HO.out hb8
              generalize accF (countK l) 0 = LL at *
              go_wp2_with (at_builtin; refine appI _ rfl _ _ rfl W.heap.size _ LL rfl (O2.alloc _) _ 0 (n0 % 100) 1 rfl (Bk.new _ _ rfl) (by omega) (by simp; omega) ?_; intro g9 cap9 w9 own9 hgrow hlg)
              have hb9 : Below W.heap.size W w9 := Below.grew (bAlloc hbn _) hgrow (by simp; omega) (ownK_base O2)
              exact ⟨⟨0 + 1, by omega, by go_num, by rw [HQ.out]; exact own9, hb9⟩, by simp [intOf]⟩
          · by_cases hz : n1 = 0
            · subst hz
              have ix := idx4_1 n0 0 n2 n3
              have HQ : Hid (accF (countK l) (1 + 1) = accF (countK l) 1) := by show _ = _; rw [HZ.out.2.1, HK.out.2.1, if_pos rfl, List.append_nil]
              generalize accF (countK l) 1 = LL at *
              go_wp2_with fail
              go_roundw
              case rel => exact ⟨1 + 1, by omega, by go_num, by rw [HQ.out]; exact HO.out, hbz⟩
              case measure => simp [intOf]
            · have nz : (n1 == 0) = false := by simpa using hz
              have ix := idx4_1 n0 n1 n2 n3
              have HQ : Hid (accF (countK l) (1 + 1) = accF (countK l) 1 ++ [((1, n1 % 100), 1)]) := by show _ = _; rw [HZ.out.2.1, HK.out.2.1, if_neg hz]
              go_wp2_with fail
              refine (valOf_any n1 _).mono ?_
              rintro e w8 ⟨rfl, hb8⟩
              have hbn := bStep hbz hb8
              have hsn := hbn.size
              have O2 : OwnI w8 W.heap.size u6 (accF (countK l) 1) := own_keep HO.out hb8
              generalize accF (countK l) 1 = LL at *
              go_wp2_with (at_builtin; refine appI _ rfl _ _ rfl W.heap.size _ LL rfl (O2.alloc _) _ 1 (n1 % 100) 1 rfl (Bk.new _ _ rfl) (by omega) (by simp; omega) ?_; intro g9 cap9 w9 own9 hgrow hlg)
              have hb9 : Below W.heap.size W w9 := Below.grew (bAlloc hbn _) hgrow (by simp; omega) (ownK_base O2)
              exact ⟨⟨1 + 1, by omega, by go_num, by rw [HQ.out]; exact own9, hb9⟩, by simp [intOf]⟩
          · by_cases hz : n2 = 0
            · subst hz
              have ix := idx4_2 n0 n1 0 n3
              have HQ : Hid (accF (countK l) (2 + 1) = accF (countK l) 2) := by show _ = _; rw [HZ.out.2.2.1, HK.out.2.2.1, if_pos rfl, List.append_nil]
              generalize accF (countK l) 2 = LL at *
              go_wp2_with fail
              go_roundw
              case rel => exact ⟨2 + 1, by omega, by go_num, by rw [HQ.out]; exact HO.out, hbz⟩
              case measure => simp [intOf]
            · have nz : (n2 == 0) = false := by simpa using hz
              have ix := idx4_2 n0 n1 n2 n3
              have HQ : Hid (accF (countK l) (2 + 1) = accF (countK l) 2 ++ [((2, n2 % 100), 1)]) := by show _ = _; rw [HZ.out.2.2.1, HK.out.2.2.1, if_neg hz]
              go_wp2_with fail
              refine (valOf_any n2 _).mono ?_
              rintro e w8 ⟨rfl, hb8⟩
              have hbn := bStep hbz hb8
              have hsn := hbn.size
              have O2 : OwnI w8 W.heap.size u6 (accF (countK l) 2) := own_keep HO.out hb8
              generalize accF (countK l) 2 = LL at *
              go_wp2_with (at_builtin; refine appI _ rfl _ _ rfl W.heap.size _ LL rfl (O2.alloc _) _ 2 (n2 % 100) 1 rfl (Bk.new _ _ rfl) (by omega) (by simp; omega) ?_; intro g9 cap9 w9 own9 hgrow hlg)
              have hb9 : Below W.heap.size W w9 := Below.grew (bAlloc hbn _) hgrow (by simp; omega) (ownK_base O2)
              exact ⟨⟨2 + 1, by omega, by go_num, by rw [HQ.out]; exact own9, hb9⟩, by simp [intOf]⟩
          · by_cases hz : n3 = 0
            · subst hz
              have ix := idx4_3 n0 n1 n2 0
              have HQ : Hid (accF (countK l) (3 + 1) = accF (countK l) 3) := by show _ = _; rw [HZ.out.2.2.2, HK.out.2.2.2, if_pos rfl, List.append_nil]
              generalize accF (countK l) 3 = LL at *
              go_wp2_with fail
              go_roundw
              case rel => exact ⟨3 + 1, by omega, by go_num, by rw [HQ.out]; exact HO.out, hbz⟩
              case measure => simp [intOf]
            · have nz : (n3 == 0) = false := by simpa using hz
              have ix := idx4_3 n0 n1 n2 n3
              have HQ : Hid (accF (countK l) (3 + 1) = accF (countK l) 3 ++ [((3, n3 % 100), 1)]) := by show _ = _; rw [HZ.out.2.2.2, HK.out.2.2.2, if_neg hz]
              go_wp2_with fail
              refine (valOf_any n3 _).mono ?_
              rintro e w8 ⟨rfl, hb8⟩
              have hbn := bStep hbz hb8
              have hsn := hbn.size
              have O2 : OwnI w8 W.heap.size u6 (accF (countK l) 3) := own_keep HO.out hb8
              generalize accF (countK l) 3 = LL at *
              go_wp2_with (at_builtin; refine appI _ rfl _ _ rfl W.heap.size _ LL rfl (O2.alloc _) _ 3 (n3 % 100) 1 rfl (Bk.new _ _ rfl) (by omega) (by simp; omega) ?_; intro g9 cap9 w9 own9 hgrow hlg)
              have hb9 : Below W.heap.size W w9 := Below.grew (bAlloc hbn _) hgrow (by simp; omega) (ownK_base O2)
              exact ⟨⟨3 + 1, by omega, by go_num, by rw [HQ.out]; exact own9, hb9⟩, by simp [intOf]⟩
        · obtain rfl : k = 4 := by omega
          go_wp2_with fail
          go_ret
          refine ⟨_, rfl, ?_, bStep hbw hbz⟩
          rw [HF.out]
          exact own_less HO.out hsw
end Go.Proofs.YtdbhgocaelmanaaGreat
