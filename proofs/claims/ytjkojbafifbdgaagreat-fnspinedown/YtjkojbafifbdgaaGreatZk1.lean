/- Two layers made one: the contract. -/
import Derived.Test.YtjkojbafifbdgaaGreatZk0
import Derived.Test.YtjkojbafifbdgaaGreatZt2
import Derived.Test.YtjkojbafifbdgaaGreatGs2
import Derived.Deep.RegionHeld3
namespace Go.Proofs.YtjkojbafifbdgaaGreat
open Go.RowKit Go.Shelf

set_option maxRecDepth 100000 in
set_option maxHeartbeats 16000000 in
/-- What lies behind the loop of takeNext: the rows moved and summed up. -/
theorem takeNext_any (p fv : Value) (gs : List Nat) (vs : List Value) (L : List (List Rw)) (F : List (Int × Int)) (B b k : Nat) (w : World) (h : Lnk w B b p gs vs L) (hF : Ts w fv F) (hs : spokB L F = true) (hk : k + 2 ≤ L.length) (hB : B ≤ w.heap.size) :
    Calls Tryz.prog 38 #[nxt gs k, fv] w fun e w' => e = .returned (.tuple #[]) ∧ ∃ vs' : List Value, Lnk w' B b p (gs.take (k + 1) ++ gs.drop (k + 2)) vs' (joinO L F k) ∧ Kg gs w w' := by
  obtain ⟨hlen, -, hcells⟩ := h.look
  obtain ⟨g, a, c, eg, -, hn, hbg, hR⟩ := hcells k (by omega)
  obtain ⟨g', a', c', eg', -, hn', hbg2, hR'⟩ := hcells (k + 1) (by omega)
  rw [nxt_at eg'] at hbg
  rw [nxt_at eg]
  have hne : g < g' := asc_lt h.ll.asc (Nat.lt_succ_self k) eg eg'
  obtain ⟨-, fF, hall, -⟩ := spok_iff.1 hs
  have ba : bokB (gl L k) = true := hall _ (gl_mem (by omega))
  have bb : bokB (gl L (k + 1)) = true := hall _ (gl_mem (by omega))
  have la := rok_len (bok_rok ba)
  have lb := rok_len (bok_rok bb)
  have aa := rok_abs (bok_rok ba)
  have ab := rok_abs (bok_rok bb)
  have hglt := hbg.lt
  obtain ⟨ap, hap⟩ : ∃ ap, nxt gs (k + 2) = .pointer ap := ⟨_, rfl⟩
  have HE : Hid (∀ (w4 : World) (v' : Value), Below w.heap.size w w4 → OwnR w4 w.heap.size v' (oneL F (gl L k) (gl L (k + 1))) →
      ∃ vs' : List Value, Lnk ((w4.setCell ⟨g, 0, none⟩ v').setCell ⟨g, 1, none⟩ (nxt gs (k + 2))) B b p (gs.take (k + 1) ++ gs.drop (k + 2)) vs' (joinO L F k) ∧ Kg gs w ((w4.setCell ⟨g, 0, none⟩ v').setCell ⟨g, 1, none⟩ (nxt gs (k + 2)))) := fun w4 v' hb4 own4 => by
    have k1 : Kg [g] w ((w4.setCell ⟨g, 0, none⟩ v').setCell ⟨g, 1, none⟩ (nxt gs (k + 2))) := ((Kg.of_below hb4).trans (Kg.set 0 v')).trans (Kg.set 1 _)
    have k2 : Bk ((w4.setCell ⟨g, 0, none⟩ v').setCell ⟨g, 1, none⟩ (nxt gs (k + 2))) g #[v', nxt gs (k + 2)] 108 := by simpa using ((hbg.keep hb4).set 0 v').set 1 (nxt gs (k + 2))
    have hL : ∀ x ∈ gs, ∃ v q, Bk w x #[v, q] 108 := fun x hx => (h.ll.blk x hx).2
    have hgm : g ∈ gs := List.mem_of_getElem? eg
    have k3 : EachO ((w4.setCell ⟨g, 0, none⟩ v').setCell ⟨g, 1, none⟩ (nxt gs (k + 2))) B vs L := h.ow.kg k1 (fun x hx => by rw [List.mem_singleton.1 hx]; exact ⟨_, _, hbg⟩)
    have k4 : OwnR ((w4.setCell ⟨g, 0, none⟩ v').setCell ⟨g, 1, none⟩ (nxt gs (k + 2))) w.heap.size v' (oneL F (gl L k) (gl L (k + 1))) := by
      refine ownK_at own4 fun q e => ?_
      have := ownK_base own4 q e
      rw [Below.heap_setCell _ _ _ _ (show q ≠ g by omega), Below.heap_setCell _ _ _ _ (show q ≠ g by omega)]
    have hol := oneL_len F (gl L k) (gl L (k + 1))
    refine ⟨vs.take k ++ v' :: vs.drop (k + 2), ⟨h.ll.cut (by omega) eg k2 (fun x hx hxg => ?_), ?_⟩, k1.mono (by simp [hgm])⟩
    · obtain ⟨v, q, hbx⟩ := hL x hx
      exact k1.block x hbx.lt (by simpa using hxg)
    · unfold joinO
      refine k3.put (own_less k4 hB) (by omega) (fun q e hq => ?_) hk
      have h1 := ownK_base own4 q e
      obtain ⟨c, hc, _⟩ := h.ow.blk hq
      have := hc.lt
      omega
  have HX : Hid (∀ W, Below w.heap.size w W → W.cell? ⟨g, 0, none⟩ = some (.slice a (gl L k).length c) ∧ W.cell? ⟨g, 1, none⟩ = some (.pointer (some ⟨g', 0, none⟩)) ∧ W.cell? ⟨g', 0, none⟩ = some (.slice a' (gl L (k + 1)).length c')) := fun W hW => ⟨(hbg.keep hW).two.1, (hbg.keep hW).two.2.1, (hbg2.keep hW).two.1⟩
  have HR : Hid (∀ W, Below w.heap.size w W → Rs W (.slice a (gl L k).length c) (gl L k) ∧ Rs W (.slice a' (gl L (k + 1)).length c') (gl L (k + 1))) := fun W hW => ⟨hR.keep hW, hR'.keep hW⟩
  have HBG : Hid (∀ W, Below w.heap.size w W → Bk W g #[.slice a (gl L k).length c, .pointer (some ⟨g', 0, none⟩)] 108 ∧ Bk W g' #[.slice a' (gl L (k + 1)).length c', .pointer ap] 108) := fun W hW => ⟨hbg.keep hW, by rw [← hap]; exact hbg2.keep hW⟩
  have HT : Hid (Ts w fv F) := hF
  obtain ⟨af, capf, rfl, -, -, -, -⟩ := hF
  rw [hap] at HE
  clear hcells h hR hR' hall eg eg' hbg hbg2 hlen hs hk hap
  have HO : Hid (oneL F (gl L k) (gl L (k + 1)) = sumL ltS (moveL F (sumL ltS (gl L k ++ gl L (k + 1))))) := rfl
  have hsp : Hid (∀ r ∈ moveL F (sumL ltS (gl L k ++ gl L (k + 1))), spOk r.1) := move_sp2 (sum_keys ba bb) fF
  have hml := sumL_len ltS (gl L k ++ gl L (k + 1))
  rw [List.length_append] at hml
  have hab := sum_absR (gl L k ++ gl L (k + 1))
  rw [absum_append] at hab
  have hna := move_abs F (sumL ltS (gl L k ++ gl L (k + 1)))
  have hnl : (moveL F (sumL ltS (gl L k ++ gl L (k + 1)))).length = (sumL ltS (gl L k ++ gl L (k + 1))).length := by simp [moveL]
  generalize hGA : gl L k = GA at *
  generalize hGB : gl L (k + 1) = GB at *
  obtain ⟨s0, s1, s2⟩ := HX.out w (Below.refl _ _)
  have hcur : Below w.heap.size w w.drew := (Below.refl _ _).drew
  go_enter Tryz.func38, Tryz.ntmps38
  go_wp2_with fail
  go_region_held3 (fun W => W.cell? ⟨g, 0, none⟩ = some (.slice a GA.length c) ∧ W.cell? ⟨g, 1, none⟩ = some (.pointer (some ⟨g', 0, none⟩)) ∧ W.cell? ⟨g', 0, none⟩ = some (.slice a' GB.length c'))
    (first | exact HX.out _ hcur | exact HX.out _ hcur2)
    (first
      | (go_at_call 84; with_reducible refine (together_any _ _ GA GB _ (HR.out _ hcur).1 (HR.out _ hcur).2 ba bb).mono ?_; rintro e w2 ⟨o2, rfl, own2, hb2⟩; have hcur2 : Below w.heap.size w w2 := bStep hcur hb2))
  have own2' : OwnR w2 w.heap.size o2 (sumL ltS (GA ++ GB)) := own2
  clear own2 hb2 s0 s1 s2
  generalize hM : sumL ltS (GA ++ GB) = l at *
  have hs2 := hcur2.size
  rcases ownK_open own2' rowC_len with ⟨rfl, rfl⟩ | ⟨gq, cap, cc, rfl, hg, hbk, hcs, hcc, hm, hfill⟩
  · have R2 : Rs w2 (.slice none 0 0) [] := OwnR.rs own2' (by simp)
    clear own2'
    go_wp2_with fail
    refine wp_loop_rounds 1 ?_
    rw [rounds_succ]
    go_wp2_with fail
    refine (sumUp_any _ (moveL F []) _ R2 (by simp [moveL]) (by simp [moveL, absum]) hsp.out).mono ?_
    rintro e w3 ⟨o3, rfl, own3, hb3⟩
    have hb4 := bStep hcur2 hb3
    have HZ := (show Hid _ from HE.out w3 o3 hb4 (by rw [HO.out]; exact own_less own3 hs2))
    obtain ⟨b1, b2⟩ := HBG.out w3 hb4
    obtain ⟨a3, c3, rfl, -⟩ := Rs.open (OwnR.rs own3 (Nat.le_trans (sumL_len _ _) (by simp [moveL])))
    obtain ⟨x0, x1, f0, f1⟩ := b1.two
    obtain ⟨y0, y1, _, _⟩ := b2.two
    clear own3 hb3 HE b1 b2
    go_wp2_with fail
    refine bodyPost_end (results_none rfl _ _ _) rfl ?_
    exact ⟨rfl, HZ.out⟩
  · clear own2'
    unfold maxLen at hm
    have HCS : Hid (cc.size = cap * 5) := hcs
    have HFL : Hid (FillK rowC 5 cc l l.length) := hfill
    have hgw : w.heap.size ≤ gq := by omega
    clear hcs hfill
    go_wp2_with fail
    go_loopw [20] (fun i wr => ∃ (k : Nat) (c' : Array Value), k ≤ l.length ∧ i = .int .i64 k ∧ Bk wr gq c' 74 ∧ c'.size = cap * 5 ∧ FillK rowC 5 c' (mixL (mvR F) l k) l.length ∧ Below w.heap.size w wr) (fun i _ => l.length - (intOf i).toNat)
    case atStart => exact ⟨0, cc, by omega, rfl, hbk, HCS.out, by rw [mix_zero]; exact HFL.out, hcur2⟩
    case round =>
      clear hbk HCS HFL
      obtain ⟨k, c', hkl, rfl, hbk, hcs, hfill, hx⟩ := hrel
      have HCS : Hid (c'.size = cap * 5) := hcs
      have HFL : Hid (FillK rowC 5 c' (mixL (mvR F) l k) l.length) := hfill
      by_cases hlt : k < l.length
      · obtain ⟨⟨⟨t, A, B⟩, d⟩, hr⟩ : ∃ r, l[k]? = some r := ⟨_, List.getElem?_eq_getElem hlt⟩
        have hat := mix_at (mvR F) hr
        have x2 : c'[k * 5 + 2]? = some (.int .i64 A) := hfill k _ hlt hat 2 (by omega)
        have x3 : c'[k * 5 + 3]? = some (.int .i64 B) := hfill k _ hlt hat 3 (by omega)
        have d2 := hbk.cell x2
        have d3 := hbk.cell x3
        obtain ⟨m1, m2, hmv⟩ : ∃ m1 m2, moveV F A B = (m1, m2) := ⟨_, _, rfl⟩
        have HN : Hid (FillK rowC 5 ((c'.setIfInBounds (k * 5 + 2) (.int .i64 m1)).setIfInBounds (k * 5 + 3) (.int .i64 m2)) (mixL (mvR F) l (k + 1)) l.length) := by
          have h1 := FillK.time hfill hat hlt (by omega) m1 m2
          rw [← mix_set (mvR F) hr]
          have : mvR F ((t, (A, B)), d) = ((t, (m1, m2)), d) := by simp only [mvR, hmv]
          rw [this]; exact h1
        have T3 := HT.out.keep hx
        clear hcs hfill hr hat x2 x3
        have ik : ((k : Int) < (l.length : Int)) := by omega
        go_wp2_with fail
        refine (implFrontMove_eq hmv T3).mono ?_
        rintro e w3 ⟨rfl, hb3⟩
        have hbk3 := hbk.keep hb3
        have hx3 := bStep hx hb3
        obtain ⟨y2, q2⟩ := hbk3.held (i := k * 5 + 2) (by have := HCS.out; omega)
        obtain ⟨y3, q3⟩ := hbk3.held (i := k * 5 + 3) (by have := HCS.out; omega)
        have f2 := hbk3.free (k * 5 + 2)
        have f3 := hbk3.free (k * 5 + 3)
        have bk2 := (hbk3.set (k * 5 + 2) (.int .i64 m1)).set (k * 5 + 3) (.int .i64 m2)
        have hx4 : Below w.heap.size w ((w3.setCell ⟨gq, k * 5 + 2, none⟩ (.int .i64 m1)).setCell ⟨gq, k * 5 + 3, none⟩ (.int .i64 m2)) := (hx3.setCell (by simp; omega) _).setCell (by simp; omega) _
        clear hmv T3 d2 d3 hbk hx hb3
        go_wp2_with fail
        go_roundw
        case rel => exact ⟨k + 1, _, by omega, by go_num, bk2, by simpa using HCS.out, HN.out, hx4⟩
        case measure => simp [intOf]; omega
      · obtain rfl : k = l.length := by omega
        have R3 : Rs wr (.slice (some ⟨gq, 0, none⟩) l.length cap) (moveL F l) := by
          have h1 := HFL.out
          rw [mix_all] at h1
          have := SlK.of_blk (l := moveL F l) hbk (by rw [hnl]; exact h1) rowC_len (by rw [hnl]; exact hcc) (by unfold maxLen; exact hm) (by omega)
          rwa [hnl] at this
        have hs3 := hx.size
        have hol := sumL_len ltS (moveL F l)
        clear hcs hfill HCS HFL hbk
        go_wp2_with fail
        refine (sumUp_any _ (moveL F l) _ R3 (by omega) (by omega) hsp.out).mono ?_
        rintro e w3 ⟨o3, rfl, own3, hb3⟩
        have hb4 := bStep hx hb3
        have HZ := (show Hid _ from HE.out w3 o3 hb4 (by rw [HO.out]; exact own_less own3 hs3))
        obtain ⟨b1, b2⟩ := HBG.out w3 hb4
        obtain ⟨a3, c3, rfl, -⟩ := Rs.open (OwnR.rs own3 (by omega))
        obtain ⟨x0, x1, f0, f1⟩ := b1.two
        obtain ⟨y0, y1, _, _⟩ := b2.two
        clear own3 hb3 HE b1 b2
        go_wp2_with fail
        refine bodyPost_end (results_none rfl _ _ _) rfl ?_
        exact ⟨rfl, HZ.out⟩
end Go.Proofs.YtjkojbafifbdgaaGreat
