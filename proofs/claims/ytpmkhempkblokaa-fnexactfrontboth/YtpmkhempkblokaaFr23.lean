/- What FrontBoth answers, of the program and of its model: contracts. -/
import Derived.Test.YtpmkhempkblokaaFr20
import Derived.Test.YtpmkhempkblokaaFr21
import Derived.Deep.RegionHeld3
import Derived.Deep.AppendLies
namespace Go.Proofs.Ytpmkhempkblokaa
open Go.RowKit

theorem implFrontOk_eq {l : List (Int × Int)} {r : Bool} (h : fokB l = r) {v : Value} {w : World} (ht : Ts w v l) : Calls Try.prog 22 #[v] w fun e w' => e = .returned (.bool r) ∧ Below w.heap.size w w' := by
  rw [← h]; exact implFrontOk_any v l w ht
theorem joins_few {n m k j : Nat} (hn : n ≤ 8) (hm : m ≤ 8) (hk : k < m) (hj : j < n) : k * n + j < 64 := by
  have h1 : (k + 1) * n ≤ 8 * 8 := Nat.mul_le_mul (by omega) hn
  rw [Nat.succ_mul] at h1
  omega

set_option maxHeartbeats 8000000 in
theorem specBoth_any (v v' : Value) (f g : List (Int × Int)) (w : World) (h : Ts w v f) (h' : Ts w v' g) :
    Calls Try.prog 34 #[v, v'] w fun e w' => ∃ o : Value, e = .returned o ∧ Own w' w.heap.size o (bothL f g) ∧ Below w.heap.size w w' := by
  obtain ⟨i0, hi, hz0, hz1, hz2⟩ := info_parts infoT
  have hb0 : Below w.heap.size w (w.alloc (.cells #[] 29)) := bAlloc (Below.refl _ _) _
  have o0 := own_empty w 29 2
  have tf0 := h.keep hb0
  have tg0 := h'.keep hb0
  go_enter Try.func34, Try.ntmps34
  go_wp2_with fail
  generalize (w.alloc (.cells #[] 29)) = W at *
  cases hf : fokB f
  · have HK : Hid (bothL f g = []) := both_no1 hf
    refine (specFrontOk_eq hf tf0).mono ?_
    rintro e w1 ⟨rfl, hb1⟩
    have hbw1 := bStep hb0 hb1
    have o1 := own_keep o0 hb1
    clear o0 hb0 hb1
    go_wp2_with fail
    go_ret
    refine ⟨_, rfl, ?_, hbw1⟩
    rw [HK.out]; exact o1
  refine (specFrontOk_eq hf tf0).mono ?_
  rintro e w1 ⟨rfl, hb1⟩
  have hbw1 := bStep hb0 hb1
  have o1 := own_keep o0 hb1
  have tf1 := tf0.keep hb1
  have tg1 := tg0.keep hb1
  clear o0 hb0 hb1 tf0 tg0
  cases hg : fokB g
  · have HK : Hid (bothL f g = []) := both_no2 hg
    go_wp2_with fail
    refine (specFrontOk_eq hg tg1).mono ?_
    rintro e w2 ⟨rfl, hb2⟩
    have hbw2 := bStep hbw1 hb2
    have o2 := own_keep o1 hb2
    clear o1 hbw1 hb2
    go_wp2_with fail
    go_ret
    refine ⟨_, rfl, ?_, hbw2⟩
    rw [HK.out]; exact o2
  have HK : Hid (bothL f g = frontL (joinsL f g)) := both_yes hf hg
  have HJ : Hid (joinsL f g = joinsTo f g g.length (f.length * g.length)) := rfl
  have hf8 := fok_len8 hf
  have hg8 := fok_len8 hg
  go_wp2_with fail
  refine (specFrontOk_eq hg tg1).mono ?_
  rintro e w2 ⟨rfl, hb2⟩
  have hbw2 := bStep hbw1 hb2
  have o2 := own_keep o1 hb2
  clear o1 hbw1 hb2 tf1 tg1 hf hg
  obtain ⟨a, cap, rfl, hc, hm, hn, hcells⟩ := h
  obtain ⟨a', cap', rfl, hc', hm', hn', hcells'⟩ := h'
  unfold maxLen at hm hm'
  have HC := (show Hid _ from hcells)
  have HC' := (show Hid _ from hcells')
  clear hcells hcells'
  generalize f.length = nf at *
  generalize g.length = ng at *
  go_wp2_with fail
  go_loopw [5, 6] (fun o i wr => ∃ k : Nat, k ≤ nf ∧ i = .int .i64 k ∧ Own wr w.heap.size o (joinsTo f g ng (k * ng)) ∧ Below w.heap.size w wr) (fun _ i _ => nf - (intOf i).toNat)
  case atStart => exact ⟨0, by omega, rfl, by rw [Nat.zero_mul]; exact o2, hbw2⟩
  case round =>
    clear o2
    obtain ⟨k, hk, rfl, hown, hb⟩ := hrel
    have HO := (show Hid _ from hown)
    clear hown
    by_cases hlt : k < nf
    · have ikn : ((k : Int) < (nf : Int)) := by omega
      go_wp2_with fail
      go_loopw [5, 7] (fun o i wq => ∃ j : Nat, j ≤ ng ∧ i = .int .i64 j ∧ Own wq w.heap.size o (joinsTo f g ng (k * ng + j)) ∧ Below w.heap.size w wq) (fun _ i _ => ng - (intOf i).toNat)
      case atStart => exact ⟨0, by omega, rfl, HO.out, hb⟩
      case round =>
        clear HO hb
        obtain ⟨j, hj, rfl, hown, hb⟩ := hrel
        by_cases hjt : j < ng
        · obtain ⟨gf, off, rfl, hgf, c0, c1⟩ := HC.out k hlt
          obtain ⟨gg, off', rfl, hgg, p0, p1⟩ := HC'.out j hjt
          have HKS : Hid (∀ w' : World, Below w.heap.size w w' → w'.cell? ⟨gf, off + k * 2, none⟩ = some (.int .i64 (tA f k)) ∧ w'.cell? ⟨gf, off + k * 2 + 1, none⟩ = some (.int .i64 (tB f k)) ∧ w'.cell? ⟨gg, off' + j * 2, none⟩ = some (.int .i64 (tA g j)) ∧ w'.cell? ⟨gg, off' + j * 2 + 1, none⟩ = some (.int .i64 (tB g j))) := fun w' h => ⟨cell_below h c0, cell_below h c1, cell_below h p0, cell_below h p1⟩
          have HS := (show Hid _ from joinsTo_succ f g (k := k) hjt)
          have hfew := joins_few hg8 hf8 hlt hjt
          have hlen := joinsTo_len f g ng (k * ng + j)
          clear c0 c1 p0 p1
          generalize tA f k = X at *
          generalize tB f k = Y at *
          generalize tA g j = X' at *
          generalize tB g j = Y' at *
          generalize k * ng + j = kj at *
          generalize joinsTo f g ng kj = L at *
          have ijn : ((j : Int) < (ng : Int)) := by omega
          have HO : Hid (Own wr.drew w.heap.size u5 L) := hown
          have hbd : Below w.heap.size w wr.drew := hb.drew
          have hL : L.length ≤ 64 := by omega
          clear hown hlen
          go_wp2_with fail
          go_region_held3 (fun w' => w'.cell? ⟨gf, off + k * 2, none⟩ = some (.int .i64 X) ∧ w'.cell? ⟨gf, off + k * 2 + 1, none⟩ = some (.int .i64 Y) ∧ w'.cell? ⟨gg, off' + j * 2, none⟩ = some (.int .i64 X') ∧ w'.cell? ⟨gg, off' + j * 2 + 1, none⟩ = some (.int .i64 Y'))
            (first | exact HKS.out _ (by with_reducible assumption) | exact HKS.out _ (bAlloc (by with_reducible assumption) _))
            (first
              | (go_at_call 58; refine (specJoin_any _ _ _ _ _).mono ?_; rintro e wj ⟨rfl, hbj⟩; have hbn : Below w.heap.size w wj := bStep (by with_reducible assumption) hbj; have hoj := own_keep HO.out hbj; have hsj := hbn.size)
              | (refine step_append_lies _ (by rfl) _ _ _ (by rfl) w.heap.size 29 i0 _ 2 16 Try.underlying23 hi hz0 hz1 hz2 rfl (by omega) u5 L.length (cellsL L) (by rfl) (hoj.alloc _) ⟨wj.heap.size, 0, none⟩ 1 1 [.int .i64 (jnA X Y X' Y'), .int .i64 (jnB X Y X' Y')] (by rfl) (by rfl) (news2 _ _ _ _) (ones2 _ _) (by omega) (by unfold maxLen; omega) (by omega) (by simp; omega) (wj.heap.size + 1) (by simp) ?_; intro g3 cap3 w3 hown3 hgrow hat hlg; have hb3 : Below w.heap.size w w3 := (bAlloc hbn _).grown hgrow (by simp; omega) (own_base hoj)))
          go_wp2_with fail
          go_roundw
          case rel =>
            refine ⟨j + 1, by omega, by go_num, ?_, hb3⟩
            rw [HS.out]
            show w3.ownsRow _ _ _ _ _ _
            rw [cellsL_snoc]; simpa using hown3
          case measure => simp [intOf]; omega
        · obtain rfl : j = ng := by omega
          have HO := (show Hid _ from hown)
          clear hown
          go_wp2_with fail
          go_roundw
          case rel => exact ⟨k + 1, by omega, by go_num, by rw [Nat.succ_mul]; exact HO.out, hb⟩
          case measure => simp [intOf]; omega
    · obtain rfl : k = nf := by omega
      have hts := Own.ts HO.out (by rw [joinsTo_len]; have := Nat.mul_le_mul hk hg8; have := Nat.mul_le_mul hf8 (Nat.le_refl 8); omega)
      rw [← HJ.out] at hts
      have hszr := hb.size
      clear HO
      go_wp2_with fail
      refine (specFrontOf_any _ _ _ hts).mono ?_
      rintro e w4 ⟨o4, rfl, own4, hb4⟩
      have O4 := (show Hid _ from own4)
      clear own4
      go_wp2_with fail
      go_ret
      refine ⟨_, rfl, ?_, bStep hb hb4⟩
      rw [HK.out]; exact own_less O4.out hszr

set_option maxRecDepth 100000 in
set_option maxHeartbeats 8000000 in
theorem implBoth_any (v v' : Value) (f g : List (Int × Int)) (w : World) (h : Ts w v f) (h' : Ts w v' g) :
    Calls Try.prog 33 #[v, v'] w fun e w' => ∃ o : Value, e = .returned o ∧ Own w' w.heap.size o (bothL f g) ∧ Below w.heap.size w w' := by
  obtain ⟨i0, hi, hz0, hz1, hz2⟩ := info_parts infoT
  go_enter Try.func33, Try.ntmps33
  go_wp2_with fail
  cases hf : fokB f
  · have HK : Hid (bothL f g = []) := both_no1 hf
    refine (implFrontOk_eq hf h).mono ?_
    rintro e w1 ⟨rfl, hb1⟩
    go_wp2_with fail
    go_ret
    refine ⟨_, rfl, ?_, hb1⟩
    rw [HK.out]; exact ⟨rfl, .inl ⟨rfl, rfl⟩⟩
  refine (implFrontOk_eq hf h).mono ?_
  rintro e w1 ⟨rfl, hb1⟩
  have tg1 := h'.keep hb1
  cases hg : fokB g
  · have HK : Hid (bothL f g = []) := both_no2 hg
    go_wp2_with fail
    refine (implFrontOk_eq hg tg1).mono ?_
    rintro e w2 ⟨rfl, hb2⟩
    have hbw2 := bStep hb1 hb2
    go_wp2_with fail
    go_ret
    refine ⟨_, rfl, ?_, hbw2⟩
    rw [HK.out]; exact ⟨rfl, .inl ⟨rfl, rfl⟩⟩
  have HK : Hid (bothL f g = frontL (joinsL f g)) := both_yes hf hg
  have HJ : Hid (joinsL f g = joinsTo f g g.length (f.length * g.length)) := rfl
  have hf8 := fok_len8 hf
  have hg8 := fok_len8 hg
  go_wp2_with fail
  refine (implFrontOk_eq hg tg1).mono ?_
  rintro e w2 ⟨rfl, hb2⟩
  have hbw2 := bStep hb1 hb2
  clear hb1 hb2 tg1 hf hg
  obtain ⟨a, cap, rfl, hc, hm, hn, hcells⟩ := h
  obtain ⟨a', cap', rfl, hc', hm', hn', hcells'⟩ := h'
  unfold maxLen at hm hm'
  have HC := (show Hid _ from hcells)
  have HC' := (show Hid _ from hcells')
  clear hcells hcells'
  generalize f.length = nf at *
  generalize g.length = ng at *
  go_wp2_with fail
  go_loopw [5, 20] (fun o i wr => ∃ k : Nat, k ≤ nf ∧ i = .int .i64 k ∧ Own wr w.heap.size o (joinsTo f g ng (k * ng)) ∧ Below w.heap.size w wr) (fun _ i _ => nf - (intOf i).toNat)
  case atStart => exact ⟨0, by omega, rfl, by rw [Nat.zero_mul]; exact ⟨rfl, .inl ⟨rfl, rfl⟩⟩, hbw2⟩
  case round =>
    obtain ⟨k, hk, rfl, hown, hb⟩ := hrel
    have HO := (show Hid _ from hown)
    clear hown
    by_cases hlt : k < nf
    · obtain ⟨gf, off, rfl, hgf, c0, c1⟩ := HC.out k hlt
      have d0 := cell_below hb c0
      have d1 := cell_below hb c1
      have HSJ : Hid (∀ j, j < ng → joinsTo f g ng (k * ng + (j + 1)) = joinsTo f g ng (k * ng + j) ++ [(jnA (tA f k) (tB f k) (tA g j) (tB g j), jnB (tA f k) (tB f k) (tA g j) (tB g j))]) := fun j hj => joinsTo_succ f g hj
      clear c0 c1
      generalize tA f k = X at *
      generalize tB f k = Y at *
      have HN0 : Hid (∀ m, u5.ownBlock = some m → m ≠ wr.heap.size) := fun m hm => by have := own_lt HO.out m hm; omega
      have bs := Bk.new (w := wr) #[.int .i64 X, .int .i64 Y] 29 rfl
      have hbs := bAlloc hb (.cells #[.int .i64 X, .int .i64 Y] 29)
      have HOS := (show Hid _ from own_keep HO.out (bAlloc (Below.refl _ wr) (.cells #[.int .i64 X, .int .i64 Y] 29)))
      clear HO
      go_wp2_with fail
      clear d0 d1
      generalize (wr.alloc (.cells #[.int .i64 X, .int .i64 Y] 29)) = ws at *
      generalize wr.heap.size = gs at *
      go_loopw [5, 26] (fun o i wq => ∃ j : Nat, j ≤ ng ∧ i = .int .i64 j ∧ Own wq w.heap.size o (joinsTo f g ng (k * ng + j)) ∧ (∀ m, o.ownBlock = some m → m ≠ gs) ∧ Bk wq gs #[.int .i64 X, .int .i64 Y] 29 ∧ Below w.heap.size w wq) (fun _ i _ => ng - (intOf i).toNat)
      case atStart => exact ⟨0, by omega, rfl, HOS.out, HN0.out, bs, hbs⟩
      case round =>
        clear HOS HN0 bs hbs
        obtain ⟨j, hj, rfl, hown, hno', bs, hb⟩ := hrel
        have hno := (show Hid _ from hno')
        clear hno'
        by_cases hjt : j < ng
        · obtain ⟨gg, off', rfl, hgg, p0, p1⟩ := HC'.out j hjt
          have e0 := cell_below hb p0
          have e1 := cell_below hb p1
          have HS := (show Hid _ from HSJ.out j hjt)
          have hfew := joins_few hg8 hf8 hlt hjt
          have hlen := joinsTo_len f g ng (k * ng + j)
          clear p0 p1
          generalize tA g j = X' at *
          generalize tB g j = Y' at *
          generalize k * ng + j = kj at *
          generalize joinsTo f g ng kj = L at *
          have hL : L.length ≤ 64 := by omega
          have HO := (show Hid _ from own_keep hown (bAlloc (Below.refl _ wr) (.cells #[.int .i64 X', .int .i64 Y'] 29)))
          have bs2 := bs.alloc (.cells #[.int .i64 X', .int .i64 Y'] 29)
          have bt2 := Bk.new (w := wr) #[.int .i64 X', .int .i64 Y'] 29 rfl
          have hb2 := bAlloc hb (.cells #[.int .i64 X', .int .i64 Y'] 29)
          have hlts := bs.lt
          obtain ⟨s0, s1, _, _⟩ := bs2.two
          obtain ⟨t0, t1, _, _⟩ := bt2.two
          clear hown hlen bs
          go_wp2_with fail
          refine (implJoin_any _ _ _ _ _).mono ?_
          rintro e wj ⟨rfl, hbj⟩
          have hoj := own_keep HO.out hbj
          have hbn := bStep hb2 hbj
          have bsj := bs2.keep hbj
          have hsj := hbn.size
          have hltj := bsj.lt
          clear HO hb2 bs2 bt2 s0 s1 t0 t1 e0 e1 hb
          go_wp2_with (at_builtin; refine wpList_append_lies _ rfl _ _ 23 rfl w.heap.size 29 i0 (.agg #[.int .i64 0, .int .i64 0]) 2 16 Try.underlying23 hi hz0 hz1 hz2 rfl (by decide) _ _ _ rfl (hoj.alloc _) ⟨wj.heap.size, 0, none⟩ 1 1 [.int .i64 (jnA X Y X' Y'), .int .i64 (jnB X Y X' Y')] rfl rfl (news2 _ _ _ _) (ones2 _ _) (by omega) (by unfold maxLen; omega) (by omega) (by simp; omega) (wj.heap.size + 1) (by simp) ?_; intro g3 cap3 w3 hown3 hgrow hat hlg)
          have hb3 : Below w.heap.size w w3 := (bAlloc hbn _).grown hgrow (by simp; omega) (own_base hoj)
          have bs3 : Bk w3 gs #[.int .i64 X, .int .i64 Y] 29 := by
            unfold Bk
            rw [hgrow.block gs (by simp; omega) (fun e => hno.out gs e.symm rfl)]
            exact bsj.alloc _
          have hno3 : Hid (∀ m, (Value.slice (some ⟨g3, 0, none⟩) (L.length + 1) cap3).ownBlock = some m → m ≠ gs) := by
            intro m hm
            have e : g3 = m := by simpa [Value.ownBlock] using hm
            subst e
            rcases hat with hat | hat
            · exact hno.out _ hat
            · omega
          go_roundw
          case rel =>
            refine ⟨j + 1, by omega, by go_num, ?_, hno3.out, bs3, hb3⟩
            rw [HS.out]
            show w3.ownsRow _ _ _ _ _ _
            rw [cellsL_snoc]; simpa using hown3
          case measure => simp [intOf]; omega
        · obtain rfl : j = ng := by omega
          have HO := (show Hid _ from hown)
          clear hown
          go_wp2_with fail
          go_roundw
          case rel => exact ⟨k + 1, by omega, by go_num, by rw [Nat.succ_mul]; exact HO.out, hb⟩
          case measure => simp [intOf]; omega
    · obtain rfl : k = nf := by omega
      have hts := Own.ts HO.out (by rw [joinsTo_len]; have := Nat.mul_le_mul hk hg8; have := Nat.mul_le_mul hf8 (Nat.le_refl 8); omega)
      rw [← HJ.out] at hts
      have hszr := hb.size
      clear HO
      go_wp2_with fail
      refine (implFrontOf_any _ _ _ hts).mono ?_
      rintro e w4 ⟨o4, rfl, own4, hb4⟩
      have O4 := (show Hid _ from own4)
      clear own4
      go_wp2_with fail
      go_ret
      refine ⟨_, rfl, ?_, bStep hb hb4⟩
      rw [HK.out]; exact own_less O4.out hszr
end Go.Proofs.Ytpmkhempkblokaa
