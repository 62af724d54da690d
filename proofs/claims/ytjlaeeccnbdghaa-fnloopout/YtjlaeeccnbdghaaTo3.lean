/- How many there are of each key that is first, or that a tie leads to, where they are few: the contract. -/
import Derived.Test.YtjlaeeccnbdghaaTo2
namespace Go.Proofs.Ytjlaeeccnbdghaa
open Go.RowKit
open Go.ChangeMaps (setBlock)
attribute [local go_sem ↓] Go.wp_at_zero Go.wp_at_succ

def keysT (l : List It) : List It := l.map fun x => ((x.1.1, (0 : Int)), x.2)
def leadRow (tie : It) (l : List It) : List It := (l.filter fun x => decide (x.1.1 = tie.1.1)).map fun x => ((tie.1.2 % 4, (0 : Int)), tie.2 * x.2)
def leadT (ties now : List It) : List It := ties.flatMap fun tie => leadRow tie now
theorem keysT_snoc {l : List It} {k : Nat} {K V D : Int} (h : l[k]? = some ((K, V), D)) : keysT (l.take (k + 1)) = keysT (l.take k) ++ [((K, 0), D)] := by
  unfold keysT; rw [List.take_add_one, h, List.map_append]; rfl
theorem leadRow_yes {tie : It} {l : List It} {k : Nat} {K V D : Int} (h : l[k]? = some ((K, V), D)) (e : K = tie.1.1) : leadRow tie (l.take (k + 1)) = leadRow tie (l.take k) ++ [((tie.1.2 % 4, 0), tie.2 * D)] := by
  unfold leadRow; rw [List.take_add_one, h, List.filter_append, List.map_append]; simp [e]
theorem leadRow_no {tie : It} {l : List It} {k : Nat} {K V D : Int} (h : l[k]? = some ((K, V), D)) (e : K ≠ tie.1.1) : leadRow tie (l.take (k + 1)) = leadRow tie (l.take k) := by
  unfold leadRow; rw [List.take_add_one, h, List.filter_append, List.map_append]; simp [e]
theorem leadT_snoc {ties now : List It} {k : Nat} {tie : It} (h : ties[k]? = some tie) : leadT (ties.take (k + 1)) now = leadT (ties.take k) now ++ leadRow tie now := by
  unfold leadT; rw [List.take_add_one, h, List.flatMap_append]; simp
theorem led_ok {K : Int} (h0 : 0 ≤ K) (h3 : K ≤ 3) : thOk (K, 0) := ⟨by unfold fit63; omega, by unfold fit63; omega⟩
theorem tot_put {M M' P : List It} {K D : Int} (hM : ∀ z, tot M z = tot P z) (hM' : ∀ z, tot M' z = if (K, (0 : Int)) = z then tot M (K, 0) + D else tot M z) (z : Int × Int) : tot M' z = tot (P ++ [((K, 0), D)]) z := by
  rw [hM', tot_snoc, hM, hM]
  by_cases e : (K, (0 : Int)) = z
  · rw [if_pos e, if_pos e, e]
  · rw [if_neg e, if_neg e]; omega
set_option maxRecDepth 100000 in
set_option maxHeartbeats 16000000 in
theorem ledTo_few (tv' fv' nv' : Value) (ties first now : List It) (w : World) (ht : Is w tv' ties) (hf : Is w fv' first) (hn : Is w nv' now) (kt : sokB ties = true) (kf : sokB first = true) (kn : sokB now = true) (at' : absum ties ≤ 562949953421312) (af' : absum first ≤ 562949953421312) (an' : absum now ≤ 600) :
    Calls Try.prog 41 #[tv', fv', nv'] w fun e w' => ∃ (b : Nat) (M : List It), e = .returned (.map (some b)) ∧ MapWs thV thOk w' b M ∧ (∀ z, tot M z = tot (keysT first ++ leadT ties now) z) ∧ M.length ≤ 200000 ∧ Below w.heap.size w w' := by
  have hlt := sok_len kt
  have hlf := sok_len kf
  have hln := sok_len kn
  have HKT : Hid (∀ (k : Nat) (x : Int × Int) (d : Int), ties[k]? = some (x, d) → itK x ∧ -562949953421312 ≤ d ∧ d ≤ 562949953421312) := fun k x d hr => ⟨sok_k kt _ (List.mem_of_getElem? hr), by have := abs_mem hr; omega⟩
  have HKF : Hid (∀ (k : Nat) (x : Int × Int) (d : Int), first[k]? = some (x, d) → itK x ∧ -562949953421312 ≤ d ∧ d ≤ 562949953421312) := fun k x d hr => ⟨sok_k kf _ (List.mem_of_getElem? hr), by have := abs_mem hr; omega⟩
  have HKN : Hid (∀ (k : Nat) (x : Int × Int) (d : Int), now[k]? = some (x, d) → itK x ∧ -1000 ≤ d ∧ d ≤ 1000) := fun k x d hr => ⟨sok_k kn _ (List.mem_of_getElem? hr), by have := abs_mem hr; omega⟩
  obtain ⟨aT, cT, rfl, hcT, hmT, hnT, hcellT⟩ := Is.open ht
  obtain ⟨aF, cF, rfl, hcF, hmF, hnF, hcellF⟩ := Is.open hf
  obtain ⟨aN, cN, rfl, hcN, hmN, hnN, hcellN⟩ := Is.open hn
  unfold maxLen at hmT hmF hmN
  have HCT := (show Hid _ from hcellT)
  have HCF := (show Hid _ from hcellF)
  have HCN := (show Hid _ from hcellN)
  have hmm := @run_makeMap Try.prog
  have m0 : MapWs thV thOk ((w.alloc (.map #[] 0)).alloc (.cells #[.map (some w.heap.size)] 61)) w.heap.size [] := (MapWs.new w rfl).keep (bAlloc (Below.refl _ _) _)
  have b0 : Bk ((w.alloc (.map #[] 0)).alloc (.cells #[.map (some w.heap.size)] 61)) (w.heap.size + 1) #[.map (some w.heap.size)] 61 := Bk.new (w := w.alloc _) _ _ (by simp)
  have hb0 : Below w.heap.size w ((w.alloc (.map #[] 0)).alloc (.cells #[.map (some w.heap.size)] 61)) := bAlloc (bAlloc (Below.refl _ _) _) _
  have hcm : w.heap.size + 1 ≠ w.heap.size := by omega
  clear hcellT hcellF hcellN ht hf hn kt kf kn
  go_enter Try.func41, Try.ntmps41
  go_upto_region 2 with fail
  clear hmm
  generalize hW0 : ((w.alloc (.map #[] 0)).alloc (.cells #[.map (some w.heap.size)] 61)) = w0 at *
  clear hW0
  go_wp2_with fail
  go_loopw [19] (fun i wr => ∃ (k : Nat) (M : List It), k ≤ first.length ∧ i = .int .i64 k ∧ MapWs thV thOk wr w.heap.size M ∧ (∀ z, tot M z = tot (keysT (first.take k)) z) ∧ M.length ≤ k ∧ Bk wr (w.heap.size + 1) #[.map (some w.heap.size)] 61 ∧ Below w.heap.size w wr) (fun i _ => first.length - (intOf i).toNat)
  case atStart => exact ⟨0, [], by omega, rfl, m0, fun z => rfl, by simp, b0, hb0⟩
  case round =>
    clear m0 b0 hb0
    obtain ⟨k, M, hkl, rfl, hmap, htot, hMl, bc, hb⟩ := hrel
    have HT : Hid (∀ z, tot M z = tot (keysT (first.take k)) z) := htot
    clear htot
    by_cases hlt' : k < first.length
    · obtain ⟨g, off, K, V, D, rfl, hg, hr, c0, c1, c2⟩ := HCF.out k hlt'
      obtain ⟨⟨i1, i2, -, -⟩, hD1, hD2⟩ := HKF.out k _ _ hr
      have d0 := cell_below hb c0
      have d1 := cell_below hb c1
      have d2 := cell_below hb c2
      have ik : (k : Int) < (first.length : Int) := by omega
      have HZ : Hid (keysT (first.take (k + 1)) = keysT (first.take k) ++ [((K, 0), D)]) := keysT_snoc hr
      have bx := Bk.new (w := wr) #[.int .i64 K, .int .i64 V, .int .i64 D] 30 rfl
      have hbx : Below wr.heap.size wr (wr.alloc (.cells #[.int .i64 K, .int .i64 V, .int .i64 D] 30)) := bAlloc (Below.refl _ _) _
      have hm1 := hmap.keep hbx
      have bc1 := bc.keep hbx
      have hb1 := bStep hb hbx
      have hxm : wr.heap.size ≠ w.heap.size := by have := hmap.lt; omega
      clear c0 c1 c2 hr hbx hmap bc hb
      go_upto_region 6 with fail
      clear d0 d1 d2
      generalize wr.heap.size = xb at *
      generalize World.alloc _ _ = wx at *
      have HX : Hid (∀ V', Below wx.heap.size wx V' → V'.cell? ⟨xb, 0, none⟩ = some (.int .i64 K) ∧ V'.cell? ⟨xb, 2, none⟩ = some (.int .i64 D)) := fun V' hV => ⟨(Bk.keep bx hV).three.1, (Bk.keep bx hV).three.2.2⟩
      have hbD : Below wx.heap.size wx wx.drew := (Below.refl _ _).drew
      have hokK := led_ok i1 i2
      have N1 : (-1000 : Int) ≤ 1 ∧ (1 : Int) ≤ 1000 := by omega
      have ND : -562949953421312 ≤ D ∧ D ≤ 562949953421312 := ⟨hD1, hD2⟩
      have hsw := hb1.size
      go_wp2_with fail
      go_region_held3 (fun V' => V'.cell? ⟨xb, 0, none⟩ = some (.int .i64 K) ∧ V'.cell? ⟨xb, 2, none⟩ = some (.int .i64 D))
        (first | exact HX.out _ hbD | exact HX.out _ hq | exact HX5.out)
        (first
          | (go_at_call 75; refine (productOf_mid ND N1 _).mono ?_; rintro e wc ⟨rfl, hbc⟩; have hq : Below wx.heap.size wx wc := bStep hbD hbc; have hmc := hm1.keep hq; have bcc := bc1.keep hq; have bxc := bx.keep hq)
          | (go_at_call 73; refine (lead_any K D (w.heap.size + 1) w.heap.size M _ hmc bcc hcm hokK).mono ?_; rintro e wd ⟨u, M', rfl, hM', ht', hl', hx5⟩; have bcd := bcc.keepx hx5 hcm; have bxd := bxc.keepx hx5 hxm; have HX5 : Hid (wd.cell? ⟨xb, 0, none⟩ = some (.int .i64 K) ∧ wd.cell? ⟨xb, 2, none⟩ = some (.int .i64 D)) := ⟨bxd.three.1, bxd.three.2.2⟩; have hbd : Below w.heap.size w wd := hx5.below (bStep hb1 hq) (Nat.le_trans hsw hq.size) (Nat.le_refl _); have HTN : Hid (∀ z, tot M' z = tot (keysT (first.take (k + 1))) z) := (fun z => by rw [HZ.out]; exact tot_put HT.out ht' z)))
      all_goals
        go_wp2_with fail
        go_roundw
        case rel => exact ⟨k + 1, M', by omega, by go_num, hM', HTN.out, by omega, bcd, hbd⟩
        case measure => simp [intOf]; omega
    · obtain rfl : k = first.length := by omega
      rw [List.take_length] at HT
      go_wp2_with fail
      go_loopw [33] (fun i wr => ∃ (k : Nat) (M : List It), k ≤ ties.length ∧ i = .int .i64 k ∧ MapWs thV thOk wr w.heap.size M ∧ (∀ z, tot M z = tot (keysT first ++ leadT (ties.take k) now) z) ∧ M.length ≤ 400 + 400 * k ∧ Bk wr (w.heap.size + 1) #[.map (some w.heap.size)] 61 ∧ Below w.heap.size w wr) (fun i _ => ties.length - (intOf i).toNat)
      case atStart => exact ⟨0, M, by omega, rfl, hmap, fun z => by rw [show leadT (ties.take 0) now = [] by simp [leadT], List.append_nil]; exact HT.out z, by omega, bc, hb⟩
      case round =>
        clear hmap HT bc hb hMl hkl hlt' 
        obtain ⟨i, M, hil, rfl, hmap, htot, hMl, bc, hb⟩ := hrel
        have HT : Hid (∀ z, tot M z = tot (keysT first ++ leadT (ties.take i) now) z) := htot
        clear htot
        by_cases hit : i < ties.length
        · obtain ⟨g, off, K, V, D, rfl, hg, hr, c0, c1, c2⟩ := HCT.out i hit
          obtain ⟨⟨i1, i2, i3, i4⟩, hD1, hD2⟩ := HKT.out i _ _ hr
          simp only at i1 i2 i3 i4
          have d0 := cell_below hb c0
          have d1 := cell_below hb c1
          have d2 := cell_below hb c2
          have ik : (i : Int) < (ties.length : Int) := by omega
          have HZ : Hid (leadT (ties.take (i + 1)) now = leadT (ties.take i) now ++ leadRow ((K, V), D) now) := leadT_snoc hr
          have bt := Bk.new (w := wr) #[.int .i64 K, .int .i64 V, .int .i64 D] 30 rfl
          have hbt : Below wr.heap.size wr (wr.alloc (.cells #[.int .i64 K, .int .i64 V, .int .i64 D] 30)) := bAlloc (Below.refl _ _) _
          have hm1 := hmap.keep hbt
          have bc1 := bc.keep hbt
          have hb1 := bStep hb hbt
          have htm : wr.heap.size ≠ w.heap.size := by have := hmap.lt; omega
          clear c0 c1 c2 hr hbt hmap bc hb
          go_upto_region 11 with fail
          clear d0 d1 d2
          generalize wr.heap.size = tb at *
          generalize World.alloc _ _ = wt at *
          go_wp2_with fail
          go_loopw [39] (fun j wr => ∃ (k : Nat) (M : List It), k ≤ now.length ∧ j = .int .i64 k ∧ MapWs thV thOk wr w.heap.size M ∧ (∀ z, tot M z = tot ((keysT first ++ leadT (ties.take i) now) ++ leadRow ((K, V), D) (now.take k)) z) ∧ M.length ≤ 400 + 400 * i + k ∧ Bk wr tb #[.int .i64 K, .int .i64 V, .int .i64 D] 30 ∧ Bk wr (w.heap.size + 1) #[.map (some w.heap.size)] 61 ∧ Below w.heap.size w wr) (fun j _ => now.length - (intOf j).toNat)
          case atStart => exact ⟨0, M, by omega, rfl, hm1, fun z => by rw [show leadRow ((K, V), D) (now.take 0) = [] by simp [leadRow], List.append_nil]; exact HT.out z, by omega, bt, bc1, hb1⟩
          case round =>
            clear hm1 HT bt bc1 hb1 hMl
            obtain ⟨k, M, hkl, rfl, hmap, htot, hMl, bt, bc, hb⟩ := hrel
            have HT : Hid (∀ z, tot M z = tot ((keysT first ++ leadT (ties.take i) now) ++ leadRow ((K, V), D) (now.take k)) z) := htot
            clear htot
            by_cases hkn : k < now.length
            · obtain ⟨g, off, K2, V2, D2, rfl, hg, hr, c0, c1, c2⟩ := HCN.out k hkn
              obtain ⟨⟨j1, j2, -, -⟩, hE1, hE2⟩ := HKN.out k _ _ hr
              have d0 := cell_below hb c0
              have d1 := cell_below hb c1
              have d2 := cell_below hb c2
              have ikn : (k : Int) < (now.length : Int) := by omega
              have HYES : Hid (K2 = K → leadRow ((K, V), D) (now.take (k + 1)) = leadRow ((K, V), D) (now.take k) ++ [((V % 4, 0), D * D2)]) := fun e => leadRow_yes hr e
              have HNO : Hid (K2 ≠ K → leadRow ((K, V), D) (now.take (k + 1)) = leadRow ((K, V), D) (now.take k)) := fun e => leadRow_no hr e
              have bx := Bk.new (w := wr) #[.int .i64 K2, .int .i64 V2, .int .i64 D2] 30 rfl
              have hbx : Below wr.heap.size wr (wr.alloc (.cells #[.int .i64 K2, .int .i64 V2, .int .i64 D2] 30)) := bAlloc (Below.refl _ _) _
              have hm1 := hmap.keep hbx
              have bc1 := bc.keep hbx
              have bt1 := bt.keep hbx
              have hb1 := bStep hb hbx
              have hxm : wr.heap.size ≠ w.heap.size := by have := hmap.lt; omega
              clear c0 c1 c2 hr hbx hmap bc bt hb
              go_upto_region 14 with fail
              clear d0 d1 d2
              generalize wr.heap.size = xb at *
              generalize World.alloc _ _ = wx at *
              obtain ⟨x0, x1, x2⟩ := bx.three
              obtain ⟨t0, t1, t2⟩ := bt1.three
              by_cases hK : K2 = K
              · have HZ2 := (show Hid _ from HYES.out hK)
                have hKb : (K2 == K) = true := by simpa using hK
                have HX : Hid (∀ V', Below wx.heap.size wx V' → V'.cell? ⟨tb, 1, none⟩ = some (.int .i64 V) ∧ V'.cell? ⟨tb, 2, none⟩ = some (.int .i64 D) ∧ V'.cell? ⟨xb, 2, none⟩ = some (.int .i64 D2)) := fun V' hV => ⟨(Bk.keep bt1 hV).three.2.1, (Bk.keep bt1 hV).three.2.2, (Bk.keep bx hV).three.2.2⟩
                have hbD : Below wx.heap.size wx wx.drew := (Below.refl _ _).drew
                have hrem : Int.tmod V 4 = V % 4 := Int.tmod_eq_emod_of_nonneg i3
                have hokK : thOk (V % 4, 0) := led_ok (by omega) (by omega)
                have ND : -562949953421312 ≤ D ∧ D ≤ 562949953421312 := ⟨hD1, hD2⟩
                have NE : -1000 ≤ D2 ∧ D2 ≤ 1000 := ⟨hE1, hE2⟩
                have hsw := hb1.size
                subst hK
                clear HYES HNO x0 x1 x2 t0 t1 t2
                have x0 := bx.three.1
                have t0 := bt1.three.1
                go_wp2_with fail
                go_region_held3 (fun V' => V'.cell? ⟨tb, 1, none⟩ = some (.int .i64 V) ∧ V'.cell? ⟨tb, 2, none⟩ = some (.int .i64 D) ∧ V'.cell? ⟨xb, 2, none⟩ = some (.int .i64 D2))
                  (first | exact HX.out _ hbD | exact HX.out _ hq | exact HX5.out)
                  (first
                    | (go_at_call 75; refine (productOf_mid ND NE _).mono ?_; rintro e wc ⟨rfl, hbc⟩; have hq : Below wx.heap.size wx wc := bStep hbD hbc; have hmc := hm1.keep hq; have bcc := bc1.keep hq; have bxc := bx.keep hq; have btc := bt1.keep hq)
                    | (go_at_call 73; refine (lead_any (V % 4) (D * D2) (w.heap.size + 1) w.heap.size M _ hmc bcc hcm hokK).mono ?_; rintro e wd ⟨u, M', rfl, hM', ht', hl', hx5⟩; have bcd := bcc.keepx hx5 hcm; have bxd := bxc.keepx hx5 hxm; have btd := btc.keepx hx5 htm; have HX5 : Hid (wd.cell? ⟨tb, 1, none⟩ = some (.int .i64 V) ∧ wd.cell? ⟨tb, 2, none⟩ = some (.int .i64 D) ∧ wd.cell? ⟨xb, 2, none⟩ = some (.int .i64 D2)) := ⟨btd.three.2.1, btd.three.2.2, bxd.three.2.2⟩; have hbd : Below w.heap.size w wd := hx5.below (bStep hb1 hq) (Nat.le_trans hsw hq.size) (Nat.le_refl _); have HTN : Hid (∀ z, tot M' z = tot ((keysT first ++ leadT (ties.take i) now) ++ leadRow ((K2, V), D) (now.take (k + 1))) z) := (fun z => by rw [HZ2.out, ← List.append_assoc]; exact tot_put HT.out ht' z)))
                all_goals
                  go_wp2_with fail
                  go_roundw
                  case rel => exact ⟨k + 1, M', by omega, by go_num, hM', HTN.out, by omega, btd, bcd, hbd⟩
                  case measure => simp [intOf]; omega
              · have HZ2 := (show Hid _ from HNO.out hK)
                have hKb : (K2 == K) = false := by simpa using hK
                go_wp2_with fail
                go_roundw
                case rel => exact ⟨k + 1, M, by omega, by go_num, hm1, fun z => by rw [HZ2.out]; exact HT.out z, by omega, bt1, bc1, hb1⟩
                case measure => simp [intOf]; omega
            · obtain rfl : k = now.length := by omega
              rw [List.take_length] at HT
              go_wp2_with fail
              go_roundw
              case rel => exact ⟨i + 1, M, by omega, by go_num, hmap, fun z => by rw [HZ.out, ← List.append_assoc]; exact HT.out z, by omega, bc, hb⟩
              case measure => simp [intOf]; omega
        · obtain rfl : i = ties.length := by omega
          rw [List.take_length] at HT
          have c0 : wr.cell? ⟨w.heap.size + 1, 0, none⟩ = some (.map (some w.heap.size)) := Bk.cell bc rfl
          go_wp2_with fail
          go_ret
          exact ⟨_, M, rfl, hmap, HT.out, by omega, hb⟩
end Go.Proofs.Ytjlaeeccnbdghaa
