import Derived.Test.YtldejkhemkjcgaaGreatDoorGlk
import Derived.Test.YtldejkhemkjcgaaGreatDoorGs2
namespace Go.Proofs.YtldejkhemkjcgaaGreatDoor
open Go.RowKit Go.Shelf
set_option maxRecDepth 100000 in
set_option maxHeartbeats 8000000 in
theorem lwMoved_any (v fv : Value) (K : List (List Rw)) (f : List (Int × Int)) (w : World) (h : LyR w v K) (hf : Ts w fv f) (hl : K.length ≤ 2) :
    Calls Tryz.prog 25 #[v, fv] w fun e w' => ∃ o : Value, e = .returned o ∧ LyR w' o (K.map fun l => bmoveL l f) ∧ Below w.heap.size w w' := by
  have HH := (show Hid (LyR w v K) from h)
  have HT := (show Hid (Ts w fv f) from hf)
  obtain ⟨a, cap, rfl, hc, hm, hn, -⟩ := h.open
  unfold maxLen at hm
  have oV : OwnVR (w.alloc (.cells #[] 29)) w.heap.size (.slice (some ⟨w.heap.size, 0, none⟩) 0 0) [] := ownVR_empty _ rfl
  have hb0 : Below w.heap.size w (w.alloc (.cells #[] 29)) := bAlloc (Below.refl _ _) _
  clear h hf
  go_enter Tryz.func25, Tryz.ntmps25
  go_wp2_with fail
  go_loopw [5, 6] (fun o i wr => ∃ (k : Nat) (vs : List Value), k ≤ K.length ∧ i = .int .i64 k ∧ OwnVR wr w.heap.size o vs ∧ EoR wr w.heap.size vs ((K.take k).map fun l => bmoveL l f) ∧ Below w.heap.size w wr) (fun _ i _ => K.length - (intOf i).toNat)
  case atStart => exact ⟨0, [], by omega, rfl, oV, EoR.nil _ _, hb0⟩
  case round =>
    clear hb0 oV
    obtain ⟨k, vs, hkl, rfl, hown, heo, hb⟩ := hrel
    have HO := (show Hid (OwnVR wr w.heap.size u5 vs) from hown)
    have HE := (show Hid (EoR wr w.heap.size vs ((K.take k).map fun l => bmoveL l f)) from heo)
    have HV : Hid (vs.length = k) := by show _ = _; rw [heo.1, List.length_map, List.length_take]; omega
    have hsz := hb.size
    clear hown heo
    by_cases hlt : k < K.length
    · obtain ⟨l, hl'⟩ : ∃ l, K[k]? = some l := ⟨_, List.getElem?_eq_getElem hlt⟩
      obtain ⟨a', cap', e', -, -, -, hcell⟩ := (HH.out.keep hb).open
      cases e'
      obtain ⟨g, off, ad, cp, rfl, hg, c0, hR⟩ := hcell k l hl'
      have ik : ((k : Int) < (K.length : Int)) := by omega
      have HL := (show Hid (K[k]? = some l) from hl')
      have TF := HT.out.keep hb
      clear hcell hl'
      go_wp2_with fail
      refine (implMove2_any _ _ l f wr hR TF).mono ?_
      rintro e w7 ⟨o7, rfl, own7, hb7⟩
      have hbw7 := bStep hb hb7
      have hrl : (bmoveL l f).length ≤ 400 := bmove_len l f
      obtain ⟨a7, c7, e7, -⟩ := Rs.open (OwnR.rs own7 (by omega))
      subst e7
      have bn : Bk (w7.alloc (.cells #[.slice a7 (bmoveL l f).length c7] 29)) w7.heap.size #[.slice a7 (bmoveL l f).length c7] 29 := Bk.new _ _ rfl
      have hbn : Below w7.heap.size w7 (w7.alloc (.cells #[.slice a7 (bmoveL l f).length c7] 29)) := bAlloc (Below.refl _ _) _
      have hbn2 := bStep hb7 hbn
      have HO8 := (show Hid (OwnVR (w7.alloc (.cells #[.slice a7 (bmoveL l f).length c7] 29)) w.heap.size u5 vs) from own_keep HO.out hbn2)
      have HE8 := (show Hid (EoR (w7.alloc (.cells #[.slice a7 (bmoveL l f).length c7] 29)) w.heap.size (vs ++ [.slice a7 (bmoveL l f).length c7]) ((K.take (k + 1)).map fun l => bmoveL l f)) from by
        rw [take_snoc HL.out, List.map_append]
        exact (HE.out.keep hbn2).snoc (own_keep (own_less own7 (by omega)) hbn) (Nat.le_trans hrl (by decide)))
      have HB8 := (show Hid _ from bStep hbw7 hbn)
      have hz8 : (w7.alloc (.cells #[.slice a7 (bmoveL l f).length c7] 29)).heap.size = w7.heap.size + 1 := by simp
      have hsz7 := hbw7.size
      clear own7 hbn hbn2 HO HE c0
      go_wp2_with (at_builtin; go_must (refine appVR _ rfl _ _ rfl w.heap.size _ vs rfl HO8.out _ _ _ _ rfl bn (by have := HV.out; omega) (by simp; omega) ?_); intro g9 cap9 w9 own9 hg9 hlg)
      have hbw9 : Below w.heap.size w w9 := Below.grew HB8.out hg9 (by rw [hz8]; omega) (fun q e => ownK_base HO8.out q e)
      refine ⟨⟨k + 1, _, by omega, by go_num, own9, HE8.out.grew HO8.out hg9, hbw9⟩, ?_⟩
      simp [intOf]; omega
    · obtain rfl : k = K.length := by omega
      rw [List.take_length] at HE
      have ik : ¬ ((K.length : Int) < (K.length : Int)) := by omega
      have LK := (show Hid _ from HE.out.ly HO.out (by have := HV.out; omega))
      go_wp2_with fail
      go_ret
      exact ⟨_, rfl, LK.out, hb⟩
end Go.Proofs.YtldejkhemkjcgaaGreatDoor
