/- Rows put at a front, or behind it, as the model draws them: the contract. -/
import Derived.Test.YtjkojbafifbdgaaGreatZq0
import Derived.Test.YtjkojbafifbdgaaGreatGd3
import Derived.Deep.RegionWith
import Derived.Deep.DrawnRows
namespace Go.Proofs.YtjkojbafifbdgaaGreat
open Go.RowKit Go.Shelf

attribute [local go_sem ↓] Go.wp_at_zero Go.wp_at_succ
theorem Rd.grew {B : Nat} {w w' : World} {g : Nat} {v : Value} {n : Nat} {p : Int} {row : Option Nat} (h : Rd B w g v n p) (hg : w.grownBy w' row) (hr : ∀ q, row = some q → g < q) : Rd B w' g v n p := by
  refine ⟨?_, ?_, h.few, h.here, Nat.le_trans h.size hg.size⟩
  · unfold Bk; rw [hg.block g h.blk.lt (fun e => by have := hr g e.symm; omega)]; exact h.blk
  · obtain ⟨a, cap, rfl, h1, h2, h3⟩ := h.bytes
    refine ⟨a, cap, rfl, h1, h2, fun i hi => ?_⟩
    obtain ⟨b, off, z, rfl, hb, hc, h4, h5⟩ := h3 i hi
    have hB := h.here
    have hs := h.size
    have hbl := Below.grown (Below.refl B w) hg h.size (fun k e => by have := hr k e; omega)
    exact ⟨b, off, z, rfl, hb, by rw [hbl.cell (p := ⟨b, _, none⟩) hb]; exact hc, h4, h5⟩
theorem Bx.setN {g : Nat} {a w : World} (h : Bx g a w) {q : Addr} (hq : a.heap.size ≤ q.block) (u : Value) : Bx g a (w.setCell q u) :=
  ⟨h.os, h.tape, h.output, by simpa [World.setCell] using h.size, fun k hk hg => by rw [Below.heap_setCell _ _ _ _ (by omega)]; exact h.block k hk hg⟩
def okR (r : Rw) : Prop := rwOkB r = true
theorem okR_time {K V A B A' B' D : Int} (h : okR (((K, V), (A, B)), D)) (h' : okB A' B' = true) : okR (((K, V), (A', B')), D) := by
  unfold okR at h ⊢
  simp only [rwOkB, Bool.and_eq_true] at h ⊢
  simp_all
theorem take_abs {l m : List Rw} {j : Nat} {s : Sp} {D : Int} (hr : l[j]? = some (s, D)) (h : absum m = absum (l.take j)) (s' : Sp) : absum (m ++ [(s', D)]) = absum (l.take (j + 1)) := by
  rw [List.take_add_one, hr, absum_append, absum_append, h]
  rfl
set_option maxRecDepth 100000 in
set_option maxHeartbeats 8000000 in
theorem l71Behind_any {B : Nat} {w : World} {g : Nat} {v : Value} {n : Nat} {p : Int} (h : Rd B w g v n p) (hp : 0 ≤ p) (hp' : p ≤ 700000) (lv fv : Value) (l : List Rw) (F : List (Int × Int)) (hl : ∀ W, Bx g w W → Rs W lv l) (hf : ∀ W, Bx g w W → Ts W fv F) (hsm : ∀ r ∈ l, okR r) (hl10 : l.length ≤ 10) (hF : F.length ≤ 100) :
    Calls Tryz.prog 50 #[.pointer (some ⟨g, 0, none⟩), lv, fv] w fun e w' => ∃ (o : Value) (m : List Rw), e = .returned o ∧ m.length = l.length ∧ absum m = absum l ∧ (∀ r ∈ m, okR r) ∧ OwnR w' w.heap.size o (batchL m) ∧ (∃ p' : Int, p ≤ p' ∧ p' ≤ p + 10 ∧ Rd B w' g v n p') ∧ Bx g w w' := by
  have hg := h.blk.lt
  have HG : Hid (g < w.heap.size) := hg
  have HL := (show Hid (∀ W, Bx g w W → Rs W lv l) from hl)
  have HF := (show Hid (∀ W, Bx g w W → Ts W fv F) from hf)
  have HS := (show Hid (∀ r ∈ l, okR r) from hsm)
  obtain ⟨aL, cL, rfl, hcL, hmL, -⟩ := Rs.open (hl w (Bx.refl _ _))
  unfold maxLen at hmL
  obtain ⟨aF, cF, rfl, -⟩ := hf w (Bx.refl _ _)
  have h0 := h.keepb (bAlloc (Below.refl _ _) (.cells #[] 74))
  have x0 : Bx g w (w.alloc (.cells #[] 74)) := (Bx.refl _ _).alloc _
  have o0 := ownR_empty w rfl
  clear hl hf hsm
  go_enter Tryz.func50, Tryz.ntmps50
  go_wp2_with fail
  go_loopw [7, 8] (fun o i wr => ∃ (j : Nat) (m : List Rw) (p' : Int), j ≤ l.length ∧ i = .int .i64 j ∧ m.length = j ∧ absum m = absum (l.take j) ∧ (∀ r ∈ m, okR r) ∧ OwnR wr w.heap.size o m ∧ p ≤ p' ∧ p' ≤ p + j ∧ Rd B wr g v n p' ∧ Bx g w wr) (fun _ i _ => l.length - (intOf i).toNat)
  case atStart => exact ⟨0, [], p, by omega, rfl, rfl, by simp, by simp, o0, by omega, by omega, h0, x0⟩
  case round =>
    clear o0 x0 h0
    obtain ⟨j, m, p', hj, rfl, hmj, hab, hsmm, hown, hpp, hpq, hr, hx⟩ := hrel
    have HO : Hid (OwnR wr w.heap.size u7 m) := hown
    have HSM : Hid (∀ r ∈ m, okR r) := hsmm
    have hszr := hx.size
    have SLT : Hid (∀ q, u7.ownBlock = some q → q < wr.heap.size) := fun q e => ownK_lt hown q e
    have HMJ : Hid (m.length = j) := hmj
    have HAB : Hid (absum m = absum (l.take j)) := hab
    clear hab
    have hml : m.length ≤ 10 := by omega
    clear hown hsmm hmj
    by_cases hlt : j < l.length
    · obtain ⟨aL', cL', e, -, -, -, hcells⟩ := Rs.open (HL.out wr hx)
      obtain ⟨gr, off, K, V, A, B1, D, rfl, hgr, hrj, c0, c1, c2, c3, c4⟩ := hcells j hlt
      cases e
      have HSR : Hid (okR (((K, V), (A, B1)), D)) := HS.out _ (List.mem_of_getElem? hrj)
      have HAJ : Hid (∀ s' : Sp, absum (m ++ [(s', D)]) = absum (l.take (j + 1))) := fun s' => take_abs hrj HAB.out s'
      have ij : (j : Int) < (l.length : Int) := by omega
      have hxb : Bx g w (wr.alloc (.cells #[.int .i64 K, .int .i64 V, .int .i64 A, .int .i64 B1, .int .i64 D] 74)) := hx.alloc _
      have hrb : Rd B (wr.alloc (.cells #[.int .i64 K, .int .i64 V, .int .i64 A, .int .i64 B1, .int .i64 D] 74)) g v n p' := hr.keepb (bAlloc (Below.refl _ _) _)
      have bb : Bk (wr.alloc (.cells #[.int .i64 K, .int .i64 V, .int .i64 A, .int .i64 B1, .int .i64 D] 74)) wr.heap.size #[.int .i64 K, .int .i64 V, .int .i64 A, .int .i64 B1, .int .i64 D] 74 := Bk.new _ _ rfl
      have OB : Hid (OwnR (wr.alloc (.cells #[.int .i64 K, .int .i64 V, .int .i64 A, .int .i64 B1, .int .i64 D] 74)) w.heap.size u7 m) := HO.out.alloc _
      clear hcells hrj HO
      by_cases hF0 : F.length = 0
      · have hF1 : decide (0 < F.length) = false := by simp [hF0]
        clear hF0
        obtain ⟨z0, z1, z2, z3, z4⟩ := (bb).five
        have OA : OwnR ((wr.alloc (.cells #[.int .i64 K, .int .i64 V, .int .i64 A, .int .i64 B1, .int .i64 D] 74)).alloc (.cells #[.int .i64 K, .int .i64 V, .int .i64 A, .int .i64 B1, .int .i64 D] 74)) w.heap.size u7 m := (OB.out).alloc _
        have hzA : w.heap.size ≤ ((wr.alloc (.cells #[.int .i64 K, .int .i64 V, .int .i64 A, .int .i64 B1, .int .i64 D] 74)).alloc (.cells #[.int .i64 K, .int .i64 V, .int .i64 A, .int .i64 B1, .int .i64 D] 74)).heap.size := by have := (hxb).size; simp; omega
        go_wp2_with (at_builtin; refine appR _ rfl _ _ rfl w.heap.size _ m rfl OA _ _ _ _ _ _ rfl (Bk.new _ _ (by first | rfl | simp)) (by omega) hzA ?_; intro g5 cap5 w5 own5 hg5 hl5)
        have hxA : Bx g w ((wr.alloc (.cells #[.int .i64 K, .int .i64 V, .int .i64 A, .int .i64 B1, .int .i64 D] 74)).alloc (.cells #[.int .i64 K, .int .i64 V, .int .i64 A, .int .i64 B1, .int .i64 D] 74)) := (hxb).alloc _
        have hx5 : Bx g w w5 := hxA.grown hg5 (fun q e => ownK_base OA q e)
        have rdA : Rd B w5 g v n p' := (Rd.keepb (hrb) (bAlloc (Below.refl _ _) _)).grew hg5 (fun q e => by have := ownK_base OA q e; have := HG.out; omega)
        have HM5 : Hid (∀ r ∈ m ++ [(((K, V), (A, B1)), D)], okR r) := fun r hr => by
          rcases List.mem_append.1 hr with h | h
          · exact HSM.out r h
          · rw [List.mem_singleton.1 h]; exact HSR.out
        exact ⟨⟨j + 1, m ++ [(((K, V), (A, B1)), D)], p', by omega, by go_num, by rw [List.length_append, HMJ.out]; rfl, HAJ.out _, HM5.out, own5, by omega, by omega, rdA, hx5⟩, by simp [intOf]; omega⟩
      have hF1 : decide (0 < F.length) = true := by simp; omega
      have hF2 : (0 : Int) < (F.length : Int) := by omega
      cases hfk : fokB F
      · go_wp2_with fail
        generalize hWB : (wr.alloc (.cells #[.int .i64 K, .int .i64 V, .int .i64 A, .int .i64 B1, .int .i64 D] 74)) = wb at *
        refine (specFrontOk_eq hfk (HF.out wb hxb)).mono ?_
        rintro e w2 ⟨rfl, hb2⟩
        have hx2 := hxb.trans (Bx.of_below hb2)
        have hr2 := hrb.keepb hb2
        have b2 := bb.keep hb2
        have O2 := own_keep OB.out hb2
        clear c0 c1 c2 c3 c4 hWB
        obtain ⟨z0, z1, z2, z3, z4⟩ := (b2).five
        have OA : OwnR (w2.alloc (.cells #[.int .i64 K, .int .i64 V, .int .i64 A, .int .i64 B1, .int .i64 D] 74)) w.heap.size u7 m := (O2).alloc _
        have hzA : w.heap.size ≤ (w2.alloc (.cells #[.int .i64 K, .int .i64 V, .int .i64 A, .int .i64 B1, .int .i64 D] 74)).heap.size := by have := (hx2).size; simp; omega
        go_wp2_with (at_builtin; refine appR _ rfl _ _ rfl w.heap.size _ m rfl OA _ _ _ _ _ _ rfl (Bk.new _ _ (by first | rfl | simp)) (by omega) hzA ?_; intro g5 cap5 w5 own5 hg5 hl5)
        have hxA : Bx g w (w2.alloc (.cells #[.int .i64 K, .int .i64 V, .int .i64 A, .int .i64 B1, .int .i64 D] 74)) := (hx2).alloc _
        have hx5 : Bx g w w5 := hxA.grown hg5 (fun q e => ownK_base OA q e)
        have rdA : Rd B w5 g v n p' := (Rd.keepb (hr2) (bAlloc (Below.refl _ _) _)).grew hg5 (fun q e => by have := ownK_base OA q e; have := HG.out; omega)
        have HM5 : Hid (∀ r ∈ m ++ [(((K, V), (A, B1)), D)], okR r) := fun r hr => by
          rcases List.mem_append.1 hr with h | h
          · exact HSM.out r h
          · rw [List.mem_singleton.1 h]; exact HSR.out
        exact ⟨⟨j + 1, m ++ [(((K, V), (A, B1)), D)], p', by omega, by go_num, by rw [List.length_append, HMJ.out]; rfl, HAJ.out _, HM5.out, own5, by omega, by omega, rdA, hx5⟩, by simp [intOf]; omega⟩
      · go_wp2_with fail
        generalize hWB : (wr.alloc (.cells #[.int .i64 K, .int .i64 V, .int .i64 A, .int .i64 B1, .int .i64 D] 74)) = wb at *
        refine (specFrontOk_eq hfk (HF.out wb hxb)).mono ?_
        rintro e w2 ⟨rfl, hb2⟩
        have hx2 := hxb.trans (Bx.of_below hb2)
        have hr2 := hrb.keepb hb2
        have b2 := bb.keep hb2
        have O2 : Hid (OwnR w2 w.heap.size u7 m) := own_keep OB.out hb2
        have hxD := hx2.drew
        have hrD : Rd B w2.drew g v n p' := hr2.keepb (Below.refl _ _).drew
        have bD := b2.drew
        obtain ⟨y0, y1, y2, y3, y4⟩ := b2.five
        obtain ⟨v0, v1, v2, v3, v4⟩ := bD.five
        clear c0 c1 c2 c3 c4 hWB
        have hBw : B ≤ wr.heap.size := hr.size
        have hxbg : wr.heap.size ≠ g := by have := HG.out; omega
        have hFl : (F.length : Int) ≤ 1000 := by omega
        have hF1' : (1 : Int) ≤ (F.length : Int) := by omega
        go_wp2_with fail
        go_region_with (first
          | (go_at_call 49; refine (pick_any hrD (by omega) (by omega) _ hF1' hFl).mono ?_; rintro e w3 ⟨kI, rfl, hk0, hk1, hr3, hx3⟩; obtain ⟨kk, rfl⟩ := Int.eq_ofNat_of_zero_le hk0; have b3 := bD.keepx hx3 hxbg; have hx23 := hxD.trans hx3; obtain ⟨t0, t1, t2, t3, t4⟩ := b3.five; obtain ⟨aF', cF', eF, _, _, _, hfc⟩ := HF.out w3 hx23; obtain ⟨gf, off2, eF2, hgf, f0, f1⟩ := hfc kk (by omega); cases eF; cases eF2; have OW3 : Hid (OwnR w3 w.heap.size u7 m) := own_keepx O2.out.drew hx3 HG.out)
          | (go_at_call 92; refine (specJoin_any A B1 (tA F kk) (tB F kk) _).mono ?_; rintro e w4 ⟨rfl, hb4⟩; have b4 := b3.keep hb4; obtain ⟨s0, s1, s2, s3, s4⟩ := b4.five; have g2 := b4.free 2; have g3 := b4.free 3))
        all_goals
          have hx4 := hx23.trans (Bx.of_below hb4)
          have hr4 := hr3.keepb hb4
          have O4 : OwnR w4 w.heap.size u7 m := own_keep OW3.out hb4
          have hokF : okB (tA F kk) (tB F kk) = true := fok_ok hfk (by omega)
          have hokA : okB A B1 = true := rw_time HSR.out
          have HSJ : Hid (okR (((K, V), (jnA A B1 (tA F kk) (tB F kk), jnB A B1 (tA F kk) (tB F kk))), D)) := okR_time HSR.out (jn_ok hokA hokF)
          generalize jnA A B1 (tA F kk) (tB F kk) = JA at *
          generalize jnB A B1 (tA F kk) (tB F kk) = JB at *
          have b5 : Bk ((w4.setCell ⟨wr.heap.size, 2, none⟩ (.int .i64 JA)).setCell ⟨wr.heap.size, 3, none⟩ (.int .i64 JB)) wr.heap.size #[.int .i64 K, .int .i64 V, .int .i64 JA, .int .i64 JB, .int .i64 D] 74 := by simpa using (b4.set 2 (.int .i64 JA)).set 3 (.int .i64 JB)
          have hx5 : Bx g w ((w4.setCell ⟨wr.heap.size, 2, none⟩ (.int .i64 JA)).setCell ⟨wr.heap.size, 3, none⟩ (.int .i64 JB)) := (hx4.setN (show w.heap.size ≤ wr.heap.size from hszr) _).setN (show w.heap.size ≤ wr.heap.size from hszr) _
          have hr5 : Rd B ((w4.setCell ⟨wr.heap.size, 2, none⟩ (.int .i64 JA)).setCell ⟨wr.heap.size, 3, none⟩ (.int .i64 JB)) g v n (p' + 1) := (hr4.apart (q := ⟨wr.heap.size, 2, none⟩) (fun e => hxbg e.symm) hBw _).apart (q := ⟨wr.heap.size, 3, none⟩) (fun e => hxbg e.symm) hBw _
          have O5 : OwnR ((w4.setCell ⟨wr.heap.size, 2, none⟩ (.int .i64 JA)).setCell ⟨wr.heap.size, 3, none⟩ (.int .i64 JB)) w.heap.size u7 m := ownK_at O4 fun q e => by
            have := SLT.out q e
            rw [Below.heap_setCell _ _ _ _ (show q ≠ wr.heap.size by omega), Below.heap_setCell _ _ _ _ (show q ≠ wr.heap.size by omega)]
          clear b2 b3 b4 bD hx2 hx3 hx23 hx4 hxD hr2 hr3 hr4 hrD O2 OW3 O4 y0 y1 y2 y3 y4 v0 v1 v2 v3 v4 t0 t1 t2 t3 t4 s0 s1 s2 s3 s4 g2 g3 hb2 hb4 f0 f1
          generalize ((w4.setCell ⟨wr.heap.size, 2, none⟩ (.int .i64 JA)).setCell ⟨wr.heap.size, 3, none⟩ (.int .i64 JB)) = w5 at *
          obtain ⟨z0, z1, z2, z3, z4⟩ := (b5).five
          have OA : OwnR (w5.alloc (.cells #[.int .i64 K, .int .i64 V, .int .i64 JA, .int .i64 JB, .int .i64 D] 74)) w.heap.size u7 m := (O5).alloc _
          have hzA : w.heap.size ≤ (w5.alloc (.cells #[.int .i64 K, .int .i64 V, .int .i64 JA, .int .i64 JB, .int .i64 D] 74)).heap.size := by have := (hx5).size; simp; omega
          go_wp2_with (at_builtin; refine appR _ rfl _ _ rfl w.heap.size _ m rfl OA _ _ _ _ _ _ rfl (Bk.new _ _ (by first | rfl | simp)) (by omega) hzA ?_; intro g5 cap5 w6 own5 hg5 hl5)
          have hxA : Bx g w (w5.alloc (.cells #[.int .i64 K, .int .i64 V, .int .i64 JA, .int .i64 JB, .int .i64 D] 74)) := (hx5).alloc _
          have hx6 : Bx g w w6 := hxA.grown hg5 (fun q e => ownK_base OA q e)
          have rdA : Rd B w6 g v n (p' + 1) := (Rd.keepb (hr5) (bAlloc (Below.refl _ _) _)).grew hg5 (fun q e => by have := ownK_base OA q e; have := HG.out; omega)
          have HM5 : Hid (∀ r ∈ m ++ [(((K, V), (JA, JB)), D)], okR r) := fun r hr => by
            rcases List.mem_append.1 hr with h | h
            · exact HSM.out r h
            · rw [List.mem_singleton.1 h]; exact HSJ.out
          exact ⟨⟨j + 1, m ++ [(((K, V), (JA, JB)), D)], (p' + 1), by omega, by go_num, by rw [List.length_append, HMJ.out]; rfl, HAJ.out _, HM5.out, own5, by omega, by omega, rdA, hx6⟩, by simp [intOf]; omega⟩
    · obtain rfl : j = l.length := by omega
      have R1 : Rs wr u7 m := OwnR.rs HO.out (by omega)
      go_wp2_with fail
      refine (specBatchOf_any u7 m _ R1).mono ?_
      rintro e w2 ⟨o2, rfl, own2, hb2⟩
      have HO2 : Hid (OwnR w2 wr.heap.size o2 (batchL m)) := own2
      clear own2
      go_wp2_with fail
      go_ret
      exact ⟨_, m, rfl, HMJ.out, (by rw [HAB.out, List.take_length]), HSM.out, own_less HO2.out hszr, ⟨p', hpp, by omega, hr.keepb hb2⟩, hx.trans (Bx.of_below hb2)⟩
end Go.Proofs.YtjkojbafifbdgaaGreat
