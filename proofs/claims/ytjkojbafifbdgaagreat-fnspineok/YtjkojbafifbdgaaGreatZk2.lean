/- Layers as a spine: the contract. -/
import Derived.Test.YtjkojbafifbdgaaGreatZl4
import Derived.Test.YtjkojbafifbdgaaGreatZm1
import Derived.Test.YtjkojbafifbdgaaGreatZs3
import Derived.Deep.RegionLaw
import Derived.Deep.DrawnRows
namespace Go.Proofs.YtjkojbafifbdgaaGreat
open Go.RowKit Go.Shelf

attribute [local go_sem ↓] Go.wp_at_zero Go.wp_at_succ
/-- What is told of a spine: nothing, if it is not ok. -/
def okL (L : List (List Rw)) (F : List (Int × Int)) : List (List Rw) := if spokB L F then L else []
def okF (L : List (List Rw)) (F : List (Int × Int)) : List (Int × Int) := if spokB L F then F else []
theorem okL_no {L : List (List Rw)} {F : List (Int × Int)} (h : spokB L F = false) : okL L F = [] ∧ okF L F = [] := by simp [okL, okF, h]
theorem okL_yes {L : List (List Rw)} {F : List (Int × Int)} (h : spokB L F = true) : okL L F = L ∧ okF L F = F := by simp [okL, okF, h]
def ptrM (N : Nat) (v : Value) : Nat := match v with | .pointer (some a) => N - a.block | _ => 0
theorem ownV_slice {w : World} {B : Nat} {v : Value} {l : List Value} (h : OwnV w B v l) : ∃ a c, v = .slice a l.length c := by
  rcases ownK_open h valC_len with ⟨rfl, rfl⟩ | ⟨g, cap, c, rfl, _⟩
  · exact ⟨_, _, rfl⟩
  · exact ⟨_, _, rfl⟩
theorem own_slice2 {w : World} {B : Nat} {v : Value} {l : List (Int × Int)} (h : Own w B v l) : ∃ a c, v = .slice a l.length c := by
  rcases ownK_open (enc := timC) h timC_len with ⟨rfl, rfl⟩ | ⟨g, cap, c, rfl, _⟩
  · exact ⟨_, _, rfl⟩
  · exact ⟨_, _, rfl⟩
set_option maxRecDepth 100000 in
set_option maxHeartbeats 16000000 in
theorem spineOf_any (p fv : Value) (gs : List Nat) (vs : List Value) (L : List (List Rw)) (F : List (Int × Int)) (B b : Nat) (w : World) (h : Lnk w B b p gs vs L) (hF : Ts w fv F) (hn : L.length ≤ 1000) (hf : F.length ≤ 1000000) (hB : B ≤ w.heap.size) :
    Calls Tryz.prog 39 #[p, fv] w fun e w' => ∃ lv' fv' : Value, e = .returned (.tuple #[spv lv' fv', .bool (spokB L F)]) ∧ SpO w' B lv' fv' (okL L F) (okF L F) ∧ Below w.heap.size w w' := by
  obtain ⟨hlen, rfl, hcells⟩ := h.look
  have HA := (show Hid (gs.Pairwise (· < ·)) from h.ll.asc)
  have HC := (show Hid _ from hcells)
  have HE := (show Hid (EachO w B vs L) from h.ow)
  have HF := (show Hid (Ts w fv F) from hF)
  have hvl := h.ow.len
  obtain ⟨aF, cF, rfl, -⟩ := hF
  have br0 : Bk ((w.alloc (.cells #[.slice none 0 0, .slice none 0 0] 26)).alloc (.cells #[.slice none 0 0, .slice none 0 0] 26)) w.heap.size #[.slice none 0 0, .slice none 0 0] 26 := (Bk.new _ _ rfl).alloc _
  have bs0 : Bk ((w.alloc (.cells #[.slice none 0 0, .slice none 0 0] 26)).alloc (.cells #[.slice none 0 0, .slice none 0 0] 26)) (w.heap.size + 1) #[.slice none 0 0, .slice none 0 0] 26 := Bk.new (w := w.alloc _) _ _ (by simp)
  have hb0 : Below w.heap.size w ((w.alloc (.cells #[.slice none 0 0, .slice none 0 0] 26)).alloc (.cells #[.slice none 0 0, .slice none 0 0] 26)) := bAlloc (bAlloc (Below.refl _ _) _) _
  have hs0 : w.heap.size + 2 ≤ ((w.alloc (.cells #[.slice none 0 0, .slice none 0 0] 26)).alloc (.cells #[.slice none 0 0, .slice none 0 0] 26)).heap.size := by simp
  clear hcells h
  have HP : Hid (∃ ap, nxt gs 0 = .pointer ap) := ⟨_, rfl⟩
  obtain ⟨ap, hap⟩ := HP.out
  have HAP := (show Hid (nxt gs 0 = .pointer ap) from hap)
  rw [hap]
  clear hap HP
  go_enter Tryz.func39, Tryz.ntmps39
  go_wp2_with fail
  generalize ((w.alloc (.cells #[.slice none 0 0, .slice none 0 0] 26)).alloc (.cells #[.slice none 0 0, .slice none 0 0] 26)) = w0 at *
  go_loopw [7] (fun l wr => ∃ (k : Nat) (lv : Value), k ≤ L.length ∧ l = nxt gs k ∧ OwnV wr (w.heap.size + 2) lv (vs.take k) ∧ Bk wr (w.heap.size + 1) #[lv, .slice none 0 0] 26 ∧ Bk wr w.heap.size #[.slice none 0 0, .slice none 0 0] 26 ∧ w.heap.size + 2 ≤ wr.heap.size ∧ Below w.heap.size w wr) (fun l _ => ptrM w.heap.size l)
  case atStart => exact ⟨0, _, by omega, HAP.out.symm, ownK_nil _ _ _ _ _, bs0, br0, hs0, hb0⟩
  case round =>
    clear bs0 br0 hs0 hb0
    obtain ⟨k, lv, hk, rfl, hown, bs, br, hsz, hb⟩ := hrel
    obtain ⟨av, cv, rfl⟩ := ownV_slice hown
    by_cases hlt : k < L.length
    · obtain ⟨g, a, c, eg, ev, hnl, hbg, -⟩ := HC.out k hlt
      have EG := (show Hid (nxt gs k = .pointer (some ⟨g, 0, none⟩)) from nxt_at eg)
      rw [EG.out]
      have hglt : g < w.heap.size := hbg.lt
      obtain ⟨ap', hap'⟩ : ∃ ap', nxt gs (k + 1) = .pointer ap' := ⟨_, rfl⟩
      have EN := (show Hid (nxt gs (k + 1) = .pointer ap') from hap')
      have HZ : Hid (vs.take (k + 1) = vs.take k ++ [.slice a (gl L k).length c]) := take_snoc ev
      have HM : Hid (ptrM w.heap.size (.pointer ap') < w.heap.size - g) := by
        rw [← hap']
        by_cases hl2 : k + 1 < L.length
        · obtain ⟨g2, _, _, eg2, _, _, hbg2, _⟩ := HC.out (k + 1) hl2
          have h1 := asc_lt HA.out (Nat.lt_succ_self k) eg eg2
          have h2 := hbg2.lt
          rw [nxt_at eg2]
          show w.heap.size - g2 < _
          omega
        · rw [nxt_end (by omega)]
          show 0 < _
          omega
      have hbg' := hbg.keep hb
      rw [hap'] at hbg'
      have hvk : (vs.take k).length ≤ 1000 := by rw [List.length_take]; omega
      have O2 : OwnV ((wr.alloc (.cells #[.slice a (gl L k).length c] 33)).drew) (w.heap.size + 2) (.slice av (vs.take k).length cv) (vs.take k) := hown.alloc _
      have B2 : Bk ((wr.alloc (.cells #[.slice a (gl L k).length c] 33)).drew) wr.heap.size #[.slice a (gl L k).length c] 33 := (Bk.new _ _ rfl).drew
      have S2 : Bk ((wr.alloc (.cells #[.slice a (gl L k).length c] 33)).drew) (w.heap.size + 1) #[.slice av (vs.take k).length cv, .slice none 0 0] 26 := (bs.alloc _).drew
      have R2 : Bk ((wr.alloc (.cells #[.slice a (gl L k).length c] 33)).drew) w.heap.size #[.slice none 0 0, .slice none 0 0] 26 := (br.alloc _).drew
      have G2 : Bk ((wr.alloc (.cells #[.slice a (gl L k).length c] 33)).drew) g #[.slice a (gl L k).length c, .pointer ap'] 108 := (hbg'.alloc _).drew
      have W2 : Below w.heap.size w ((wr.alloc (.cells #[.slice a (gl L k).length c] 33)).drew) := (bAlloc hb _).drew
      have Z2 : w.heap.size + 2 ≤ ((wr.alloc (.cells #[.slice a (gl L k).length c] 33)).drew).heap.size := by simp; omega
      obtain ⟨s0, s1, _, _⟩ := bs.two
      obtain ⟨t0, t1, _, _⟩ := S2.two
      obtain ⟨q0, q1, _, _⟩ := hbg'.two
      obtain ⟨t2, _, _, _⟩ := (bs.alloc (.cells #[.slice a (gl L k).length c] 33)).two
      clear hown br hbg hbg' hap' ev eg
      generalize hGL : (gl L k).length = n at *
      generalize hVN : vs.take k = V at *
      go_wp2_with fail
      go_region_law (refine stepV _ rfl _ _ rfl (w.heap.size + 2) (.slice av V.length cv) V rfl O2 wr.heap.size a n c rfl B2 (Nat.le_trans hvk (by omega)) Z2 ?_; intro g5 cap5 w5 own5 hg5 hl5; have bs5 := Bk.grew S2 hg5 (fun q e => by have := ownK_base O2 q e; omega); obtain ⟨y0, y1, f0, f1⟩ := bs5.two)
      all_goals
        have br5 := Bk.grew R2 hg5 (fun q e => by have := ownK_base O2 q e; omega)
        have bg5 := Bk.grew G2 hg5 (fun q e => by have := ownK_base O2 q e; omega)
        have hb5 : Below w.heap.size w w5 := Below.grew W2 hg5 (by omega) (fun q e => by have := ownK_base O2 q e; omega)
        have hs5 := hg5.size
        have bs6 := bs5.set 0 (.slice (some ⟨g5, 0, none⟩) (V.length + 1) cap5)
        have hg5b : w.heap.size + 2 ≤ g5 := ownK_base own5 g5 rfl
        have HF6 : Hid (OwnV (w5.setCell ⟨w.heap.size + 1, 0, none⟩ (.slice (some ⟨g5, 0, none⟩) (V.length + 1) cap5)) (w.heap.size + 2) (.slice (some ⟨g5, 0, none⟩) (V.length + 1) cap5) (V ++ [.slice a n c]) ∧ Bk (w5.setCell ⟨w.heap.size + 1, 0, none⟩ (.slice (some ⟨g5, 0, none⟩) (V.length + 1) cap5)) (w.heap.size + 1) #[.slice (some ⟨g5, 0, none⟩) (V.length + 1) cap5, .slice none 0 0] 26 ∧
            Bk (w5.setCell ⟨w.heap.size + 1, 0, none⟩ (.slice (some ⟨g5, 0, none⟩) (V.length + 1) cap5)) w.heap.size #[.slice none 0 0, .slice none 0 0] 26 ∧ w.heap.size + 2 ≤ (w5.setCell ⟨w.heap.size + 1, 0, none⟩ (.slice (some ⟨g5, 0, none⟩) (V.length + 1) cap5)).heap.size ∧ Below w.heap.size w (w5.setCell ⟨w.heap.size + 1, 0, none⟩ (.slice (some ⟨g5, 0, none⟩) (V.length + 1) cap5))) :=
          ⟨ownK_at own5 fun q e => Below.heap_setCell _ _ _ _ (show q ≠ w.heap.size + 1 from by have := ownK_base own5 q e; omega), by simpa using bs6, br5.apart (show w.heap.size ≠ w.heap.size + 1 by omega) _, by simp; omega, hb5.setCell (show w.heap.size ≤ w.heap.size + 1 by omega) _⟩
        have bg6 := bg5.apart (p := ⟨w.heap.size + 1, 0, none⟩) (show g ≠ w.heap.size + 1 by omega) (.slice (some ⟨g5, 0, none⟩) (V.length + 1) cap5)
        obtain ⟨r0, r1, _, _⟩ := bg6.two
        clear own5 bs5 bs6 br5 bg5 bg6 hb5 O2 B2 S2 R2 G2 W2 Z2 s0 s1 t0 t1 t2 y0 y1 f0 f1 q0 q1 hg5 hs5
        generalize hW6 : w5.setCell ⟨w.heap.size + 1, 0, none⟩ (.slice (some ⟨g5, 0, none⟩) (V.length + 1) cap5) = w6 at *
        go_wp2_with fail
        go_roundw
        case rel => exact ⟨k + 1, _, by omega, EN.out.symm, by rw [HZ.out]; exact HF6.out.1, HF6.out.2.1, HF6.out.2.2.1, HF6.out.2.2.2.1, HF6.out.2.2.2.2⟩
        case measure => exact HM.out
    · obtain rfl : k = L.length := by omega
      rw [nxt_end (gs := gs) (k := L.length) (by omega)]
      have hvl2 : vs.take L.length = vs := by rw [← hvl]; exact List.take_length
      rw [hvl2] at hown bs
      obtain ⟨s0, s1, fs0, fs1⟩ := bs.two
      have TF := HF.out.keep hb
      have oN : Own wr (w.heap.size + 2) (.slice none 0 0) [] := ownK_nil timC _ _ _ _
      have HO := (show Hid (OwnV wr (w.heap.size + 2) (.slice av vs.length cv) vs) from hown)
      have HBS : Hid (Bk wr (w.heap.size + 1) #[.slice av vs.length cv, .slice none 0 0] 26) := bs
      have HBR : Hid (Bk wr w.heap.size #[.slice none 0 0, .slice none 0 0] 26) := br
      clear hown bs br hvl2
      go_wp2_with (at_builtin; go_loud (refine appTs _ rfl _ _ rfl (w.heap.size + 2) _ [] rfl oN _ F rfl TF (by simp; omega) hsz ?_; intro v5 w5 own5 hg5; obtain ⟨a5, c5, rfl⟩ : ∃ a c, v5 = .slice a F.length c := own_slice2 (l := F) own5; have hb5 : Below wr.heap.size wr w5 := Below.grew (Below.refl _ _) hg5 (Nat.le_refl _) (fun q e => by cases e); obtain ⟨y0, y1, f0, f1⟩ := (HBS.out.keep hb5).two))
      have own6 : Own w5 (w.heap.size + 2) (.slice a5 F.length c5) F := by simpa using own5
      try simp only [List.nil_append]
      have bs5 := HBS.out.keep hb5
      have br5 := HBR.out.keep hb5
      have bs6 := bs5.set 1 (.slice a5 F.length c5)
      have br6 := br5.apart (p := ⟨w.heap.size + 1, 1, none⟩) (show w.heap.size ≠ w.heap.size + 1 by omega) (.slice a5 F.length c5)
      have hb6 : Below w.heap.size w (w5.setCell ⟨w.heap.size + 1, 1, none⟩ (.slice a5 F.length c5)) := (bStep hb hb5).setCell (show w.heap.size ≤ w.heap.size + 1 by omega) _
      have HV6 : Hid (OwnV (w5.setCell ⟨w.heap.size + 1, 1, none⟩ (.slice a5 F.length c5)) (w.heap.size + 2) (.slice av vs.length cv) vs) := ownK_at (own_keep HO.out hb5) fun q e => Below.heap_setCell _ _ _ _ (show q ≠ w.heap.size + 1 from by have := ownK_base HO.out q e; omega)
      have HT6 : Hid (Own (w5.setCell ⟨w.heap.size + 1, 1, none⟩ (.slice a5 F.length c5)) (w.heap.size + 2) (.slice a5 F.length c5) F) := ownK_at own6 fun q e => Below.heap_setCell _ _ _ _ (show q ≠ w.heap.size + 1 from by have := ownK_base own6 q e; omega)
      have HS6 : Hid (SpO (w5.setCell ⟨w.heap.size + 1, 1, none⟩ (.slice a5 F.length c5)) B (.slice av vs.length cv) (.slice a5 F.length c5) L F) := ⟨vs, own_less HV6.out (by omega), HE.out.keep hb6, own_less HT6.out (by omega)⟩
      have bs7 : Bk (w5.setCell ⟨w.heap.size + 1, 1, none⟩ (.slice a5 F.length c5)) (w.heap.size + 1) #[.slice av vs.length cv, .slice a5 F.length c5] 26 := by simpa using bs6
      rw [hvl] at HS6 HV6 bs7
      have SP6 := HS6.out.spn (by omega) (by omega)
      clear own5 own6 hg5 hb5 bs5 br5 bs6 y0 y1 f0 f1 s0 s1 fs0 fs1 HO HBS HBR oN TF
      try rw [hvl]
      generalize w5.setCell ⟨w.heap.size + 1, 1, none⟩ (.slice a5 F.length c5) = w6 at *
      cases hsp : spokB L F
      · have HN := (show Hid _ from okL_no hsp)
        refine (implSpineOk_eq hsp SP6).mono ?_
        rintro e w7 ⟨rfl, hb7⟩
        have br7 := br6.keep hb7
        obtain ⟨x0, x1, g0, g1⟩ := br7.two
        have br8 := (br7.set 0 (.slice none 0 0)).set 1 (.slice none 0 0)
        have br9 := br7.set 0 (.slice none 0 0)
        obtain ⟨u0, u1, h0, h1⟩ := br9.two
        obtain ⟨t0, t1, _, _⟩ := br8.two
        have HB8 : Hid (Below w.heap.size w ((w7.setCell ⟨w.heap.size, 0, none⟩ (.slice none 0 0)).setCell ⟨w.heap.size, 1, none⟩ (.slice none 0 0))) := ((bStep hb6 hb7).setCell (Nat.le_refl _) _).setCell (Nat.le_refl _) _
        clear br6 br7 br8 br9 bs7 hb6 hb7
        go_wp2_with fail
        refine bodyPost_ret (v := .tuple #[spv (.slice none 0 0) (.slice none 0 0), .bool false]) (by simp [results, Tryz.results39, go_sem, t0, t1]) rfl ?_
        exact ⟨_, _, by rw [hsp], by rw [HN.out.1, HN.out.2]; exact SpO.nil _ _, HB8.out⟩
      · have HN := (show Hid _ from okL_yes hsp)
        refine (implSpineOk_eq hsp SP6).mono ?_
        rintro e w7 ⟨rfl, hb7⟩
        have br7 := br6.keep hb7
        obtain ⟨z0, z1, _, _⟩ := (bs7.keep hb7).two
        obtain ⟨x0, x1, g0, g1⟩ := br7.two
        have br8 := (br7.set 0 (.slice av L.length cv)).set 1 (.slice a5 F.length c5)
        have br9 := br7.set 0 (.slice av L.length cv)
        obtain ⟨u0, u1, h0, h1⟩ := br9.two
        obtain ⟨t0, t1, _, _⟩ := br8.two
        have HB8 : Hid (Below w.heap.size w ((w7.setCell ⟨w.heap.size, 0, none⟩ (.slice av L.length cv)).setCell ⟨w.heap.size, 1, none⟩ (.slice a5 F.length c5)) ∧ SpO ((w7.setCell ⟨w.heap.size, 0, none⟩ (.slice av L.length cv)).setCell ⟨w.heap.size, 1, none⟩ (.slice a5 F.length c5)) B (.slice av L.length cv) (.slice a5 F.length c5) L F) := by
          refine ⟨((bStep hb6 hb7).setCell (Nat.le_refl _) _).setCell (Nat.le_refl _) _, ?_⟩
          have d1 : ∀ q, w.heap.size + 2 ≤ q → ((w7.setCell ⟨w.heap.size, 0, none⟩ (.slice av L.length cv)).setCell ⟨w.heap.size, 1, none⟩ (.slice a5 F.length c5)).heap[q]? = w7.heap[q]? := fun q hq => by
            rw [Below.heap_setCell _ _ _ _ (show q ≠ w.heap.size by omega), Below.heap_setCell _ _ _ _ (show q ≠ w.heap.size by omega)]
          refine ⟨vs, own_less (ownK_at (own_keep HV6.out hb7) fun q e => d1 q (ownK_base HV6.out q e)) (by omega), HE.out.keep (((bStep hb6 hb7).setCell (Nat.le_refl _) _).setCell (Nat.le_refl _) _), own_less (ownK_at (own_keep HT6.out hb7) fun q e => d1 q (ownK_base HT6.out q e)) (by omega)⟩
        clear br6 br7 br8 br9 bs7 hb6 hb7
        go_wp2_with fail
        refine bodyPost_ret (v := .tuple #[spv (.slice av L.length cv) (.slice a5 F.length c5), .bool true]) (by simp [results, Tryz.results39, go_sem, t0, t1]) rfl ?_
        exact ⟨_, _, by rw [hsp], by rw [HN.out.1, HN.out.2]; exact HB8.out.2, HB8.out.1⟩
end Go.Proofs.YtjkojbafifbdgaaGreat
