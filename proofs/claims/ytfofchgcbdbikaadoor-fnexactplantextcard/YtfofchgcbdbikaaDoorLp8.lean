/- readPlan: the contract. -/
import Derived.Test.YtfofchgcbdbikaaDoorLp7
namespace Go.Proofs.YtfofchgcbdbikaaDoor
open Go.RowKit Go.Shelf

set_option maxRecDepth 100000 in
set_option maxHeartbeats 16000000 in
theorem readPlan_some {d : Nat} {x : By} {ws : List By} {v : Value} {w : World} {deep : Int} {p : Int × Int} {u : World} (h0 : 1 ≤ deep) (h4 : deep ≤ 4) (hp : lookW x = some p) (hu : Below u.heap.size u w) (h : Wss u v (x :: ws))
    (hrec : ∀ (W : World) (v' : Value) (ws' : List By), Below u.heap.size u W → Wss u v' ws' → Calls Tryd.prog 27 #[v', .int .i64 (deep + 1)] W (ReadPost u d ws' W)) :
    Calls Tryd.prog 27 #[v, .int .i64 deep] w (ReadPost u (d + 1) (x :: ws) w) := by
  have HR := (show Hid _ from hrec)
  have HP := (show Hid _ from hp)
  have h5 : ¬ 4 < deep := by omega
  obtain ⟨a, c, rfl, h⟩ : ∃ a c, v = .slice a (ws.length + 1) c ∧ Wss u (.slice a (ws.length + 1) c) (x :: ws) := by
    obtain ⟨a, c, rfl, h1⟩ := h
    exact ⟨a, c, rfl, a, c, rfl, h1⟩
  obtain ⟨g, off, rfl, -, hc1, hc2, hcell, htail⟩ := h.tail
  have HT := (show Hid (Wss u _ ws) from htail)
  have bR : Bk (w.alloc (.cells #[.int .i64 0, .int .i64 0, .slice none 0 0] 25)) w.heap.size #[.int .i64 0, .int .i64 0, .slice none 0 0] 25 := Bk.new _ _ rfl
  have hb0 : Below w.heap.size w (w.alloc (.cells #[.int .i64 0, .int .i64 0, .slice none 0 0] 25)) := bAlloc (Below.refl _ _) _
  have hcell0 := cell_below hb0 (cell_below hu hcell)
  have hz : ((ws.length : Int) + 1 == 0) = false := by simp; omega
  clear hrec hp h htail hcell
  rcases Classical.em (c = 1) with hcc | hcc
  all_goals
    go_enter Tryd.func27, Tryd.ntmps27
    go_wp2_with fail
    generalize (w.alloc (.cells #[.int .i64 0, .int .i64 0, .slice none 0 0] 25)) = W0 at *
    refine (planOfWord_any x _).mono ?_
    rintro e w1 ⟨hor, hb1⟩
    rcases hor with ⟨p', hp', rfl⟩ | ⟨hp', -⟩
    · obtain rfl : p' = p := by have := HP.out; rw [hp'] at this; exact Option.some.inj this
      have bR1 := bR.keep hb1
      have hbw1 := bStep hb0 hb1
      clear bR hb0 hb1 hcell0 hp'
      have bN : Bk (w1.alloc (.cells #[.int .i64 p'.1, .int .i64 p'.2, .slice none 0 0] 25)) w1.heap.size #[.int .i64 p'.1, .int .i64 p'.2, .slice none 0 0] 25 := Bk.new _ _ rfl
      have bR2 := bR1.alloc (.cells #[.int .i64 p'.1, .int .i64 p'.2, .slice none 0 0] 25)
      have hbw2 := bAlloc hbw1 (.cells #[.int .i64 p'.1, .int .i64 p'.2, .slice none 0 0] 25)
      have hlt := bR1.lt
      clear bR1 hbw1
      go_wp2_with fail
      have HV : ∃ rv, Hid (Wss u rv ws) ∧ rv = Value.slice (some ⟨g, if c = 1 then off else off + 1, none⟩) ws.length (if c = 1 then 0 else c - 1) := by
        refine ⟨_, ?_, rfl⟩
        by_cases hc : c = 1
        · have hn : ws = [] := List.length_eq_zero_iff.1 (by omega)
          subst hn
          exact ⟨_, _, rfl, by simp [hc], by simp [hc], Or.inl rfl⟩
        · have := HT.out
          simp only [hc, if_false]
          exact this
      simp only [hcc, if_true, if_false] at HV
      obtain ⟨rv, HV, hrv⟩ := HV
      rw [← hrv]
      clear hrv
      generalize (w1.alloc (.cells #[.int .i64 p'.1, .int .i64 p'.2, .slice none 0 0] 25)) = W2 at *
      generalize w1.heap.size = b9 at *
      obtain ⟨km, hkm⟩ : ∃ km : Nat, kidN p'.1 = km ∧ km ≤ 2 := by
        rcases cand_kid p' (look_some HP.out).2 with h | h | h
        · exact ⟨0, h, by omega⟩
        · exact ⟨1, h, by omega⟩
        · exact ⟨2, h, by omega⟩
      obtain ⟨hkm, hk2⟩ := hkm
      have HKM := (show Hid (kidN p'.1 = (km : Int)) from hkm)
      rw [hkm]
      clear hkm
      go_loopw [10, 36] (fun vr i wr => ∃ k : Nat, i = .int .i64 k ∧ RdI u d ws p' w b9 k vr wr) (fun _ i _ => km - (intOf i).toNat)
      case atStart => exact ⟨0, rfl, Nat.zero_le _, ⟨[], ws, _, [], rfl, HV.out, rfl, bN, World.ownsRow_nil _ _ _ _, fun i t z h => by simp at h⟩, bR2, hlt, hbw2⟩
      case round =>
        obtain ⟨k, rfl, HI⟩ := hrel
        obtain ⟨hkl, ⟨l, r, sl, ps, hrd, hwr, hpl, b9k, hown, hps⟩, bR4, h9, hb⟩ := HI
        rw [HKM.out] at hkl
        have HRD := (show Hid _ from hrd)
        have HWR := (show Hid (Wss u u10 r) from hwr)
        have HPS := (show Hid _ from hps)
        have HO := (show Hid (wr.ownsRow (b9 + 1) 25 3 sl k (plC ps)) from hown)
        clear hown hps hwr hrd bN bR2 hbw2
        by_cases hlt2 : k < km
        · have ik : ((k : Int) < (km : Int)) := by omega
          have hdeep : ¬ (9223372036854775807 : Int) < deep + 1 := by omega
          have HU : Hid (Below u.heap.size u wr) := hu.trans (hb.mono hu.size)
          go_wp2_with fail
          refine Calls.mono (HR.out wr u10 r HU.out HWR.out) ?_
          rintro e w8 ⟨hor, hb8⟩
          have hb8' := bStep hb hb8
          rcases hor with ⟨t, r2, ta, tn, tc, v2, hr, rfl, hkp, hv2⟩ | ⟨hr, rfl⟩
          · have bX : Bk (w8.alloc (.cells #[.int .i64 t.k, .int .i64 t.n, .slice ta tn tc] 25)) w8.heap.size #[.int .i64 t.k, .int .i64 t.n, .slice ta tn tc] 25 := Bk.new _ _ rfl
            have hbx := bAlloc hb8' (.cells #[.int .i64 t.k, .int .i64 t.n, .slice ta tn tc] 25)
            obtain ⟨x0, x1, x2⟩ := bX.three'
            have HKP := (show Hid _ from hkp)
            clear hkp
            obtain ⟨asl, nsl, csl, rfl⟩ : ∃ a n c, sl = .slice a n c := by
              obtain ⟨_, ⟨e, _⟩ | ⟨g1, cap1, cur1, e, _⟩⟩ := HO.out
              · exact ⟨_, _, _, e⟩
              · exact ⟨_, _, _, e⟩
            have H8 : Hid (Below wr.heap.size wr ((w8.alloc (.cells #[.int .i64 t.k, .int .i64 t.n, .slice ta tn tc] 25)).alloc (.cells #[.int .i64 t.k, .int .i64 t.n, .slice ta tn tc] 25))) := bAlloc (bAlloc hb8 _) _
            have b9a := b9k.keep (bAlloc hb8 (.cells #[.int .i64 t.k, .int .i64 t.n, .slice ta tn tc] 25))
            have b9b := b9k.keep H8.out
            have bnew : Bk ((w8.alloc (.cells #[.int .i64 t.k, .int .i64 t.n, .slice ta tn tc] 25)).alloc (.cells #[.int .i64 t.k, .int .i64 t.n, .slice ta tn tc] 25)) (w8.heap.size + 1) #[.int .i64 t.k, .int .i64 t.n, .slice ta tn tc] 25 := Bk.new _ _ (by simp)
            have hown8 := pl_own_move HO.out fun x _ hx => H8.out.block x hx
            have HK8 : Hid (KdP (fun g => wr.heap.size ≤ g) ((w8.alloc (.cells #[.int .i64 t.k, .int .i64 t.n, .slice ta tn tc] 25)).alloc (.cells #[.int .i64 t.k, .int .i64 t.n, .slice ta tn tc] 25)) t (.slice ta tn tc)) := HKP.out.move fun x hx hl => ⟨hx, ((bAlloc (bAlloc (Below.refl w8.heap.size w8) (.cells #[.int .i64 t.k, .int .i64 t.n, .slice ta tn tc] 25)) (.cells #[.int .i64 t.k, .int .i64 t.n, .slice ta tn tc] 25))).block x hl⟩
            have hs7 := hb8.size
            have h9l := b9k.lt
            have HNB : Hid ((Value.slice asl nsl csl).ownBlock ≠ some b9) := fun e => by have := (HO.out.lt _ e).1; omega
            obtain ⟨q0, q1, q2⟩ := b9a.three'
            have hpl2 := hpl.symm
            subst hpl2
            have HW8 := (show Hid _ from hown8)
            have HRR := (show Hid _ from hr)
            have HV2 := (show Hid (Wss u v2 r2) from hv2)
            clear hown8 hr hv2
            go_wp2_with (at_builtin; go_must (refine appP _ rfl _ _ rfl (b9 + 1) _ ps rfl HW8.out _ _ _ _ _ _ rfl bnew (by omega) (by simp; omega) ?_); intro g9 cap9 w9 own9 hgrow hor9 hlg; have b99 := pl_grew b9b hgrow HNB.out; obtain ⟨y0, y1, y2⟩ := b99.three'; have f2 := b99.free 2)
            refine ⟨⟨ps.length + 1, by go_num, rdI_step (by rw [HKM.out]; simpa using hlt2) HRD.out rfl b9k HO.out HPS.out bR4 h9 hb H8.out HK8.out HRR.out HV2.out own9 hgrow hor9⟩, ?_⟩
            simp [intOf]; omega
          · have br := (bR4.keep hb8).alloc (.cells #[.int .i64 0, .int .i64 0, .slice none 0 0] 25)
            have bo := ((br.set 0 (.int .i64 0)).set 1 (.int .i64 0)).set 2 (.slice none 0 0)
            obtain ⟨r0, r1, r2⟩ := br.three'
            have f0 := br.free 0
            have f1 := (br.set 0 (.int .i64 0)).free 1
            have f2 := ((br.set 0 (.int .i64 0)).set 1 (.int .i64 0)).free 2
            have bo' : Bk ((((w8.alloc (.cells #[.int .i64 0, .int .i64 0, .slice none 0 0] 25)).setCell ⟨w.heap.size, 0, none⟩ (.int .i64 0)).setCell ⟨w.heap.size, 1, none⟩ (.int .i64 0)).setCell ⟨w.heap.size, 2, none⟩ (.slice none 0 0)) w.heap.size #[.int .i64 0, .int .i64 0, .slice none 0 0] 25 := bo
            obtain ⟨y0, y1, y2⟩ := bo'.three'
            have HB : Hid (Below w.heap.size w ((((w8.alloc (.cells #[.int .i64 0, .int .i64 0, .slice none 0 0] 25)).setCell ⟨w.heap.size, 0, none⟩ (.int .i64 0)).setCell ⟨w.heap.size, 1, none⟩ (.int .i64 0)).setCell ⟨w.heap.size, 2, none⟩ (.slice none 0 0))) := (((bAlloc hb8' (.cells #[.int .i64 0, .int .i64 0, .slice none 0 0] 25)).setCell (by simp) _).setCell (by simp) _).setCell (by simp) _
            have HX : Hid (readW (d + 1) (x :: ws) = none) := by
              have h1 : readK d (k + 1) ws = none := by simp [readK, HRD.out, hr]
              have h2 := readK_none (d := d) (ws := ws) (j := k + 1) (m := (kidN p'.1).toNat) (by rw [HKM.out]; simpa using Nat.succ_le_of_lt hlt2) h1
              show readW (d + 1) (x :: ws) = none
              rw [readW_kids HP.out, h2]; rfl
            clear br bo bo' hb8' b9k bR4
            go_wp2_with fail
            refine bodyPost_ret (v := .tuple #[pl 0 0 (.slice none 0 0), .slice none 0 0, .bool false]) (by simp [results, Tryd.results27, go_sem, y0, y1, y2]; try rfl) rfl ?_
            exact ⟨.inr ⟨HX.out, rfl⟩, HB.out⟩
        · have hkk : k = km := by omega
          subst hkk
          have ik : ¬ ((k : Int) < (k : Int)) := by omega
          obtain ⟨q0, q1, q2⟩ := b9k.three'
          have hl : l.length = k := readK_len HRD.out
          have kp : KdP (fun g => w.heap.size ≤ g) wr (mkT p'.1 p'.2 l) sl := kdP_of (B := b9 + 1) (by rw [hl]; exact HO.out) (by omega) (by omega) HPS.out (fun g hg => by omega) (fun g hg => by have := hg.1; omega)
          obtain ⟨a5, c5, e5⟩ := kp.sl
          generalize (mkT p'.1 p'.2 l).len = n5 at e5
          subst e5
          obtain ⟨r0, r1, r2⟩ := bR4.three'
          have f0 := bR4.free 0
          have g1 := bR4.set 0 (.int .i64 p'.1)
          have f1 := g1.free 1
          have g2 := g1.set 1 (.int .i64 p'.2)
          have f2 := g2.free 2
          have g3 : Bk (((wr.setCell ⟨w.heap.size, 0, none⟩ (.int .i64 p'.1)).setCell ⟨w.heap.size, 1, none⟩ (.int .i64 p'.2)).setCell ⟨w.heap.size, 2, none⟩ (.slice a5 n5 c5)) w.heap.size #[.int .i64 p'.1, .int .i64 p'.2, .slice a5 n5 c5] 25 := g2.set 2 _
          obtain ⟨y0, y1, y2⟩ := g3.three'
          have HB : Hid (Below w.heap.size w (((wr.setCell ⟨w.heap.size, 0, none⟩ (.int .i64 p'.1)).setCell ⟨w.heap.size, 1, none⟩ (.int .i64 p'.2)).setCell ⟨w.heap.size, 2, none⟩ (.slice a5 n5 c5))) := ((hb.setCell (by simp) _).setCell (by simp) _).setCell (by simp) _
          have kp1 : KdP (fun g => w.heap.size < g) wr (mkT p'.1 p'.2 l) (.slice a5 n5 c5) := kdP_of (B := b9 + 1) (by rw [hl]; exact HO.out) (by omega) (by omega) HPS.out (fun g hg => by omega) (fun g hg => by have := hg.1; omega)
          have hset : ∀ x, x ≠ w.heap.size → (((wr.setCell ⟨w.heap.size, 0, none⟩ (.int .i64 p'.1)).setCell ⟨w.heap.size, 1, none⟩ (.int .i64 p'.2)).setCell ⟨w.heap.size, 2, none⟩ (.slice a5 n5 c5)).heap[x]? = wr.heap[x]? := fun x hx => ((Below.heap_setCell _ _ _ _ hx).trans (Below.heap_setCell _ _ _ _ hx)).trans (Below.heap_setCell _ _ _ _ hx)
          have HKP := (show Hid _ from kp1.move (q := fun g => w.heap.size ≤ g) fun x hx _ => ⟨by omega, hset x (by omega)⟩)
          have HX : Hid (readW (d + 1) (x :: ws) = some (mkT p'.1 p'.2 l, r)) := by
            show readW (d + 1) (x :: ws) = _
            have h1 : (kidN p'.1).toNat = k := by rw [HKM.out]; simp
            rw [readW_kids HP.out, h1, HRD.out]; rfl
          clear kp kp1 g1 g2 g3 hset b9k bR4 hb
          go_wp2_with fail
          refine bodyPost_ret (v := .tuple #[pl p'.1 p'.2 (.slice a5 n5 c5), u10, .bool true]) (by simp [results, Tryd.results27, go_sem, y0, y1, y2]; try rfl) rfl ?_
          exact ⟨.inl ⟨mkT p'.1 p'.2 l, r, a5, n5, c5, u10, HX.out, by rw [mkT_k, mkT_n], HKP.out, HWR.out⟩, HB.out⟩
    · rw [HP.out] at hp'; cases hp'
end Go.Proofs.YtfofchgcbdbikaaDoor
