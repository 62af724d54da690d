/- Reading a plan's words, by the model: the contract. -/
import Derived.Test.YtfofchgcbdbikaaDoorLq2
namespace Go.Proofs.YtfofchgcbdbikaaDoor
open Go.RowKit Go.Shelf

theorem l41T_sub : ∀ (d : Nat) (ws : List By), ∀ x ∈ (l41T d ws).2, x ∈ ws
  | 0, ws, x, h => h
  | d + 1, [], x, h => by cases h
  | d + 1, w :: ws, x, h => by
    simp only [l41T] at h
    split at h
    · exact List.mem_cons_of_mem _ (l41T_sub d ws x h)
    · split at h
      · exact List.mem_cons_of_mem _ (l41T_sub d ws x (l41T_sub d _ x h))
      · exact List.mem_cons_of_mem _ h
theorem l41K_sub {d : Nat} : ∀ (j : Nat) (ws : List By), ∀ x ∈ (l41K d j ws).2, x ∈ ws
  | 0, _, _, h => h
  | j + 1, ws, x, h => l41K_sub j ws x (l41T_sub d _ x h)
/-- What holds between two rounds over the kinds. -/
structure KnI (x : By) (w : World) (k : Nat) (wr : World) : Prop where
  kk : 1 ≤ k ∧ k ≤ 7
  box : Bk wr (w.heap.size + 1) #[.int .i64 (foldK x (k - 1)).1, .int .i64 (foldK x (k - 1)).2, .slice none 0 0] 25
  nam : Bk wr (w.heap.size + 2) namA 9
  res : Bk wr w.heap.size #[.int .i64 0, .int .i64 0, .slice none 0 0] 25
  bel : Below w.heap.size w wr
set_option maxRecDepth 100000 in
set_option maxHeartbeats 16000000 in
theorem l41Plan_some {d : Nat} {x : By} {ws : List By} {v : Value} {w : World} {u : World} (h4 : d ≤ 3) (hx : x.length ≤ 100000) (hu : Below u.heap.size u w) (h : Wss u v (x :: ws))
    (hrec : ∀ (W : World) (v' : Value) (ws' : List By), (∀ x ∈ ws', x ∈ ws) → Below u.heap.size u W → Wss u v' ws' → Calls Tryd.prog 32 #[v', .int .i64 (d : Int)] W (L41Post u d ws' W)) :
    Calls Tryd.prog 32 #[v, .int .i64 ((d : Int) + 1)] w (L41Post u (d + 1) (x :: ws) w) := by
  have HR := (show Hid _ from hrec)
  have h5 : ¬ ((d : Int) + 1 < 1) := by omega
  obtain ⟨a, c, rfl, h⟩ : ∃ a c, v = .slice a (ws.length + 1) c ∧ Wss u (.slice a (ws.length + 1) c) (x :: ws) := by
    obtain ⟨a, c, rfl, h1⟩ := h
    exact ⟨a, c, rfl, a, c, rfl, h1⟩
  obtain ⟨g, off, rfl, -, hc1, hc2, hcell, htail⟩ := h.tail
  have HT := (show Hid (Wss u _ ws) from htail)
  have HXC : Hid (∀ W, Below w.heap.size w W → W.cell? ⟨g, off, none⟩ = some (.string (baS x))) := fun W hW => cell_below hW (cell_below hu hcell)
  have hz : ((ws.length : Int) + 1 == 0) = false := by simp; omega
  have HI0 : Hid (KnI x w 1 (((w.alloc (.cells #[.int .i64 0, .int .i64 0, .slice none 0 0] 25)).alloc (.cells #[.int .i64 0, .int .i64 0, .slice none 0 0] 25)).alloc (.cells namA 9))) :=
    ⟨⟨by omega, by omega⟩, (Bk.new _ _ (by simp)).alloc _, Bk.new _ _ (by simp), ((Bk.new _ _ rfl).alloc _).alloc _, bAlloc (bAlloc (bAlloc (Below.refl _ _) _) _) _⟩
  have hszx := baS_size x
  clear hrec h htail hcell
  rcases Classical.em (c = 1) with hcc | hcc
  all_goals
    go_enter Tryd.func32, Tryd.ntmps32
    go_wp2_with fail
    generalize (((w.alloc (.cells #[.int .i64 0, .int .i64 0, .slice none 0 0] 25)).alloc (.cells #[.int .i64 0, .int .i64 0, .slice none 0 0] 25)).alloc (.cells namA 9)) = W0 at *
    go_loopw [8, 9] (fun kd _ wr => ∃ k : Nat, kd = .int .i64 k ∧ KnI x w k wr) (fun kd _ _ => 7 - (intOf kd).toNat)
    case atStart => exact ⟨1, rfl, HI0.out⟩
    case round =>
      clear HI0
      obtain ⟨k, rfl, ⟨k1, k7⟩, bK, bN, bR, hb⟩ := hrel
      by_cases k6 : k ≤ 6
      · have ik : (k : Int) ≤ 6 := by omega
        have ik0 : (0 : Int) ≤ (k : Int) := by omega
        have ik7 : (k : Int) < 7 := by omega
        have y1 := bN.at (nam_at k1 k6)
        have hxc := HXC.out _ hb
        obtain ⟨nm, hnm⟩ : ∃ nm, nameB (k : Int) = nm := ⟨_, rfl⟩
        have HNM := (show Hid (nameB (k : Int) = nm) from hnm)
        rw [hnm] at y1
        have hsn := baS_size nm
        have HSK : Hid (foldK x k = stepK x (foldK x (k - 1)) (k : Int)) := by
          show foldK x k = _
          obtain ⟨j, rfl⟩ : ∃ j, k = j + 1 := ⟨k - 1, by omega⟩
          rfl
        clear hnm
        have HKI : Hid (∀ W, Below wr.heap.size wr W → Bk W (w.heap.size + 2) namA 9 ∧ Bk W w.heap.size #[.int .i64 0, .int .i64 0, .slice none 0 0] 25) := fun W hW => ⟨bN.keep hW, bR.keep hW⟩
        by_cases hle : nm.length ≤ x.length
        · have ile : (nm.length : Int) ≤ (x.length : Int) := by omega
          have htr := fun w => to_run (s := x) hle w
          by_cases hq : (x.take nm.length == nm) = true
          · have HPF : Hid (nm.isPrefixOf x = true) := by show nm.isPrefixOf x = true; rw [pre_take hle]; exact hq
            obtain ⟨z0, z1, z2⟩ := bK.three'
            have f0 := bK.free 0
            have b1 : Bk (wr.setCell ⟨w.heap.size + 1, 0, none⟩ (.int .i64 k)) (w.heap.size + 1) #[.int .i64 k, .int .i64 (foldK x (k - 1)).2, .slice none 0 0] 25 := bK.set 0 _
            have hb1 : Below w.heap.size w (wr.setCell ⟨w.heap.size + 1, 0, none⟩ (.int .i64 k)) := hb.setCell (by simp) _
            have hxc1 := HXC.out _ hb1
            have bN1 : Bk (wr.setCell ⟨w.heap.size + 1, 0, none⟩ (.int .i64 k)) (w.heap.size + 2) namA 9 := by
              unfold Bk; rw [Below.heap_setCell _ _ _ _ (by simp)]; exact bN
            have bR1 : Bk (wr.setCell ⟨w.heap.size + 1, 0, none⟩ (.int .i64 k)) w.heap.size #[.int .i64 0, .int .i64 0, .slice none 0 0] 25 := by
              unfold Bk; rw [Below.heap_setCell _ _ _ _ (by simp)]; exact bR
            clear HKI bK bN bR hb
            by_cases hgt : nm.length < x.length
            · have igt : (nm.length : Int) < (x.length : Int) := by omega
              have hfr := fun w => from_run (s := x) hle w
              have HD := (show Hid _ from fun (W : World) => l41Dec_any (x.drop nm.length) (by simp; omega) W)
              have HN : Hid (foldK x k = ((k : Int), decV (x.drop nm.length))) := by
                show foldK x k = _
                rw [HSK.out]; unfold stepK; rw [HNM.out, if_pos HPF.out, if_pos hgt]
              go_wp2_with fail
              refine Calls.mono (HD.out _) ?_
              rintro e w2 ⟨⟨b, rfl⟩, hb2⟩
              have b2 := b1.keep hb2
              have bN2 := bN1.keep hb2
              have bR2 := bR1.keep hb2
              have hbw2 := bStep hb1 hb2
              have f1 := b2.free 1
              obtain ⟨z0, z1, z2⟩ := b2.three'
              have b3 : Bk (w2.setCell ⟨w.heap.size + 1, 1, none⟩ (.int .i64 (decV (x.drop nm.length)))) (w.heap.size + 1) #[.int .i64 k, .int .i64 (decV (x.drop nm.length)), .slice none 0 0] 25 := b2.set 1 _
              have hb3 : Below w.heap.size w (w2.setCell ⟨w.heap.size + 1, 1, none⟩ (.int .i64 (decV (x.drop nm.length)))) := hbw2.setCell (by simp) _
              have bN3 : Bk (w2.setCell ⟨w.heap.size + 1, 1, none⟩ (.int .i64 (decV (x.drop nm.length)))) (w.heap.size + 2) namA 9 := by
                unfold Bk; rw [Below.heap_setCell _ _ _ _ (by simp)]; exact bN2
              have bR3 : Bk (w2.setCell ⟨w.heap.size + 1, 1, none⟩ (.int .i64 (decV (x.drop nm.length)))) w.heap.size #[.int .i64 0, .int .i64 0, .slice none 0 0] 25 := by
                unfold Bk; rw [Below.heap_setCell _ _ _ _ (by simp)]; exact bR2
              clear b1 b2 bN1 bN2 bR1 bR2 hb1 hbw2 hxc1
              go_wp2_with fail
              go_roundw
              case rel => exact ⟨k + 1, by go_num, ⟨by omega, by omega⟩, by rw [Nat.add_sub_cancel, HN.out]; exact b3, bN3, bR3, hb3⟩
              case measure => simp [intOf]; omega
            · have igt : ¬ ((nm.length : Int) < (x.length : Int)) := by omega
              have HN : Hid (foldK x k = ((k : Int), (foldK x (k - 1)).2)) := by
                show foldK x k = _
                rw [HSK.out]; unfold stepK; rw [HNM.out, if_pos HPF.out, if_neg hgt]
              go_wp2_with fail
              go_roundw
              case rel => exact ⟨k + 1, by go_num, ⟨by omega, by omega⟩, by rw [Nat.add_sub_cancel, HN.out]; exact b1, bN1, bR1, hb1⟩
              case measure => simp [intOf]; omega
          · have hq2 : (x.take nm.length == nm) = false := by simpa using hq
            have HN : Hid (foldK x k = foldK x (k - 1)) := by
              show foldK x k = _
              rw [HSK.out]; unfold stepK; rw [HNM.out, if_neg (by rw [pre_take hle]; exact hq)]
            go_wp2_with fail
            go_roundw
            case rel => exact ⟨k + 1, by go_num, ⟨by omega, by omega⟩, by rw [Nat.add_sub_cancel, HN.out]; exact bK, bN, bR, hb⟩
            case measure => simp [intOf]; omega
        · have ile : ¬ ((nm.length : Int) ≤ (x.length : Int)) := by omega
          have HN : Hid (foldK x k = foldK x (k - 1)) := by
            show foldK x k = _
            rw [HSK.out]; unfold stepK; rw [HNM.out, pre_no (by omega)]; rfl
          go_wp2_with fail
          go_roundw
          case rel => exact ⟨k + 1, by go_num, ⟨by omega, by omega⟩, by rw [Nat.add_sub_cancel, HN.out]; exact bK, bN, bR, hb⟩
          case measure => simp [intOf]; omega
      · have hk7 : k = 7 := by omega
        subst hk7
        have ik : ¬ (((7 : Nat) : Int) ≤ 6) := by decide
        have HKW : Hid (foldK x 6 = kindW x) := foldK_six x
        have bK6 : Bk wr (w.heap.size + 1) #[.int .i64 (kindW x).1, .int .i64 (kindW x).2, .slice none 0 0] 25 := by
          rw [← HKW.out]; exact bK
        have HLT : Hid (l41T (d + 1) (x :: ws) = (mkT (kindW x).1 (kindW x).2 (l41K d (kidN (kindW x).1).toNat ws).1, (l41K d (kidN (kindW x).1).toNat ws).2)) := l41T_kids
        clear bK bN
        obtain ⟨p, hp⟩ : ∃ p, kindW x = p := ⟨_, rfl⟩
        rw [hp] at bK6 HLT
        clear hp HKW
        obtain ⟨z0, z1, z2⟩ := bK6.three'
        go_wp2_with fail
        refine Calls.mono (l21Kids_any p.1 _) ?_
        rintro e wr' ⟨rfl, rfl⟩
        have HV : ∃ rv, Hid (Wss u rv ws) ∧ rv = Value.slice (some ⟨g, if c = 1 then off else off + 1, none⟩) ws.length (if c = 1 then 0 else c - 1) := by
          refine ⟨_, ?_, rfl⟩
          by_cases hc : c = 1
          · have hn : ws = [] := List.length_eq_zero_iff.1 (by omega)
            subst hn
            exact ⟨_, _, rfl, by simp [hc], by simp [hc], Or.inl rfl⟩
          · have := HT.out
            simp only [hc, if_false]
            exact this
        simp only [hcc, if_true, if_false] at HV
        obtain ⟨rv, HV, hrv⟩ := HV
        have HBX := (show Hid _ from bK6)
        clear z0 z1 z2
        go_wp2_with fail
        rw [← hrv]
        clear hrv
        go_loopw [13, 14] (fun vr i wr => ∃ k : Nat, i = .int .i64 k ∧ RlI u d ws p w (w.heap.size + 1) k vr wr) (fun _ i _ => (kidN p.1).toNat - (intOf i).toNat)
        case atStart => exact ⟨0, rfl, Nat.zero_le _, ⟨[], ws, _, [], rfl, HV.out, rfl, HBX.out, World.ownsRow_nil _ _ _ _, fun i t z h => by simp at h⟩, bR, by omega, hb⟩
        case round =>
          clear bK6 bR hb HBX
          obtain ⟨k, rfl, HI⟩ := hrel
          obtain ⟨hkl, ⟨l, r, sl, ps, hrd, hwr, hpl, b9k, hown, hps⟩, bR4, h9, hb⟩ := HI
          have HRD := (show Hid _ from hrd)
          have HWR := (show Hid (Wss u u13 r) from hwr)
          have HPS := (show Hid _ from hps)
          have HO := (show Hid (wr.ownsRow (w.heap.size + 1 + 1) 25 3 sl k (plC ps)) from hown)
          have hkk2 : (kidN p.1).toNat ≤ 2 := by rcases kidN_some p.1 with h | h | h | h <;> rw [h] <;> decide
          clear hown hps hwr hrd
          by_cases hlt2 : k < (kidN p.1).toNat
          · have ik : ((k : Int) < kidN p.1) := by omega
            have HU : Hid (Below u.heap.size u wr) := hu.trans (hb.mono hu.size)
            go_wp2_with fail
            refine Calls.mono (HR.out wr u13 r (fun x hx => l41K_sub k ws x (by rw [HRD.out]; exact hx)) HU.out HWR.out) ?_
            rintro e w8 ⟨⟨t, r2, ta, tn, tc, v2, hr, rfl, hkp, hv2⟩, hb8⟩
            have hb8' := bStep hb hb8
            have bX : Bk (w8.alloc (.cells #[.int .i64 t.k, .int .i64 t.n, .slice ta tn tc] 25)) w8.heap.size #[.int .i64 t.k, .int .i64 t.n, .slice ta tn tc] 25 := Bk.new _ _ rfl
            have hbx := bAlloc hb8' (.cells #[.int .i64 t.k, .int .i64 t.n, .slice ta tn tc] 25)
            obtain ⟨x0, x1, x2⟩ := bX.three'
            have HKP := (show Hid _ from hkp)
            clear hkp
            obtain ⟨asl, nsl, csl, rfl⟩ : ∃ a n c, sl = .slice a n c := by
              obtain ⟨_, ⟨e, _⟩ | ⟨g1, cap1, cur1, e, _⟩⟩ := HO.out
              · exact ⟨_, _, _, e⟩
              · exact ⟨_, _, _, e⟩
            have H8 : Hid (Below wr.heap.size wr ((w8.alloc (.cells #[.int .i64 t.k, .int .i64 t.n, .slice ta tn tc] 25)).alloc (.cells #[.int .i64 t.k, .int .i64 t.n, .slice ta tn tc] 25))) := bAlloc (bAlloc hb8 _) _
            have b9a := b9k.keep (bAlloc hb8 (.cells #[.int .i64 t.k, .int .i64 t.n, .slice ta tn tc] 25))
            have b9b := b9k.keep H8.out
            have bnew : Bk ((w8.alloc (.cells #[.int .i64 t.k, .int .i64 t.n, .slice ta tn tc] 25)).alloc (.cells #[.int .i64 t.k, .int .i64 t.n, .slice ta tn tc] 25)) (w8.heap.size + 1) #[.int .i64 t.k, .int .i64 t.n, .slice ta tn tc] 25 := Bk.new _ _ (by simp)
            have hown8 := pl_own_move HO.out fun x _ hx => H8.out.block x hx
            have HK8 : Hid (KdP (fun g => wr.heap.size ≤ g) ((w8.alloc (.cells #[.int .i64 t.k, .int .i64 t.n, .slice ta tn tc] 25)).alloc (.cells #[.int .i64 t.k, .int .i64 t.n, .slice ta tn tc] 25)) t (.slice ta tn tc)) := HKP.out.move fun x hx hl => ⟨hx, ((bAlloc (bAlloc (Below.refl w8.heap.size w8) (.cells #[.int .i64 t.k, .int .i64 t.n, .slice ta tn tc] 25)) (.cells #[.int .i64 t.k, .int .i64 t.n, .slice ta tn tc] 25))).block x hl⟩
            have hs7 := hb8.size
            have h9l := b9k.lt
            have HNB : Hid ((Value.slice asl nsl csl).ownBlock ≠ some (w.heap.size + 1)) := fun e => by have := (HO.out.lt _ e).1; omega
            obtain ⟨q0, q1, q2⟩ := b9a.three'
            have hpl2 := hpl.symm
            subst hpl2
            have HW8 := (show Hid _ from hown8)
            have HRR := (show Hid _ from hr)
            have HV2 := (show Hid (Wss u v2 r2) from hv2)
            clear hown8 hr hv2
            go_wp2_with (at_builtin; go_must (refine appP _ rfl _ _ rfl (w.heap.size + 1 + 1) _ ps rfl HW8.out _ _ _ _ _ _ rfl bnew (by omega) (by simp; omega) ?_); intro g9 cap9 w9 own9 hgrow hor9 hlg; have b99 := pl_grew b9b hgrow HNB.out; obtain ⟨y0, y1, y2⟩ := b99.three'; have f2 := b99.free 2)
            refine ⟨⟨ps.length + 1, by go_num, rlI_step hlt2 HRD.out rfl b9k HO.out HPS.out bR4 h9 hb H8.out HK8.out HRR.out HV2.out own9 hgrow hor9⟩, ?_⟩
            simp [intOf]; omega
          · have hkk : k = (kidN p.1).toNat := by omega
            have ik : ¬ ((k : Int) < kidN p.1) := by omega
            obtain ⟨q0, q1, q2⟩ := b9k.three'
            have hl : l.length = k := by have := l41K_len (d := d) (ws := ws) k; rw [HRD.out] at this; exact this
            have kp1 : KdP (fun g => w.heap.size < g) wr (mkT p.1 p.2 l) sl := kdP_of (B := w.heap.size + 1 + 1) (by rw [hl]; exact HO.out) (by omega) (by omega) HPS.out (fun g hg => by omega) (fun g hg => by have := hg.1; omega)
            obtain ⟨a5, c5, e5⟩ := kp1.sl
            generalize (mkT p.1 p.2 l).len = n5 at e5
            subst e5
            obtain ⟨r0, r1, r2⟩ := bR4.three'
            have f0 := bR4.free 0
            have g1 := bR4.set 0 (.int .i64 p.1)
            have f1 := g1.free 1
            have g2 := g1.set 1 (.int .i64 p.2)
            have f2 := g2.free 2
            have g3 : Bk (((wr.setCell ⟨w.heap.size, 0, none⟩ (.int .i64 p.1)).setCell ⟨w.heap.size, 1, none⟩ (.int .i64 p.2)).setCell ⟨w.heap.size, 2, none⟩ (.slice a5 n5 c5)) w.heap.size #[.int .i64 p.1, .int .i64 p.2, .slice a5 n5 c5] 25 := g2.set 2 _
            obtain ⟨y0, y1, y2⟩ := g3.three'
            have HB : Hid (Below w.heap.size w (((wr.setCell ⟨w.heap.size, 0, none⟩ (.int .i64 p.1)).setCell ⟨w.heap.size, 1, none⟩ (.int .i64 p.2)).setCell ⟨w.heap.size, 2, none⟩ (.slice a5 n5 c5))) := ((hb.setCell (by simp) _).setCell (by simp) _).setCell (by simp) _
            have hset : ∀ x, x ≠ w.heap.size → (((wr.setCell ⟨w.heap.size, 0, none⟩ (.int .i64 p.1)).setCell ⟨w.heap.size, 1, none⟩ (.int .i64 p.2)).setCell ⟨w.heap.size, 2, none⟩ (.slice a5 n5 c5)).heap[x]? = wr.heap[x]? := fun x hx => ((Below.heap_setCell _ _ _ _ hx).trans (Below.heap_setCell _ _ _ _ hx)).trans (Below.heap_setCell _ _ _ _ hx)
            have HKP := (show Hid _ from kp1.move (q := fun g => w.heap.size ≤ g) fun x hx _ => ⟨by omega, hset x (by omega)⟩)
            have HX : Hid (l41T (d + 1) (x :: ws) = (mkT p.1 p.2 l, r)) := by
              show l41T (d + 1) (x :: ws) = _
              rw [HLT.out, ← hkk, HRD.out]
            clear kp1 g1 g2 g3 hset b9k bR4 hb hkk
            go_wp2_with fail
            refine bodyPost_ret (v := .tuple #[pl p.1 p.2 (.slice a5 n5 c5), u13]) (by simp [results, Tryd.results32, go_sem, y0, y1, y2]; try rfl) rfl ?_
            exact ⟨⟨mkT p.1 p.2 l, r, a5, n5, c5, u13, HX.out, by rw [mkT_k, mkT_n], HKP.out, HWR.out⟩, HB.out⟩
end Go.Proofs.YtfofchgcbdbikaaDoor
