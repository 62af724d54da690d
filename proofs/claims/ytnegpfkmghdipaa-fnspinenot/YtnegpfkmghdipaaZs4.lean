/- SpineAt of the model: the contract. -/
import Derived.Test.YtnegpfkmghdipaaZs3
import Derived.Test.YtnegpfkmghdipaaGs7
namespace Go.Proofs.Ytnegpfkmghdipaa
open Go.RowKit Go.Shelf

set_option maxRecDepth 100000 in
set_option maxHeartbeats 8000000 in
theorem specSpineAt_any (lv fv : Value) (L : List (List Rw)) (F : List (Int × Int)) (x y : Int) (w : World) (h : Spn w lv fv L F) :
    Calls Try.prog 20 #[spv lv fv, tv x y] w fun e w' => ∃ o : Value, e = .returned (.tuple #[o, .bool (satB L F x y)]) ∧ OwnI w' w.heap.size o (satL L F x y) ∧ Below w.heap.size w w' := by
  have HS := (show Hid (Spn w lv fv L F) from h)
  obtain ⟨aL, cL, rfl, hc, hm, hn, hcells⟩ := Ly.open h.1
  unfold maxLen at hm
  have HC := (show Hid _ from hcells)
  obtain ⟨aF, cF, rfl, -⟩ := h.2
  have bt0 : Bk ((w.alloc (.cells #[.slice aL L.length cL, .slice aF F.length cF] 26)).alloc (.cells #[.int .i64 x, .int .i64 y] 37)) w.heap.size #[.slice aL L.length cL, .slice aF F.length cF] 26 := (Bk.new _ _ rfl).alloc _
  have bu0 : Bk ((w.alloc (.cells #[.slice aL L.length cL, .slice aF F.length cF] 26)).alloc (.cells #[.int .i64 x, .int .i64 y] 37)) (w.heap.size + 1) #[.int .i64 x, .int .i64 y] 37 := Bk.new (w := w.alloc _) _ _ (by simp)
  have hb0 : Below w.heap.size w ((w.alloc (.cells #[.slice aL L.length cL, .slice aF F.length cF] 26)).alloc (.cells #[.int .i64 x, .int .i64 y] 37)) := bAlloc (bAlloc (Below.refl _ _) _) _
  obtain ⟨s0, s1, _, _⟩ := bt0.two
  obtain ⟨t0, t1, _, _⟩ := bu0.two
  clear h hcells
  cases hk : spokB L F
  · have HN : Hid (satL L F x y = [] ∧ satB L F x y = false) := ⟨by simp [satL, satB_no1 hk], satB_no1 hk⟩
    go_enter Try.func20, Try.ntmps20
    go_wp2_with fail
    refine (specSpineOk_eq hk (HS.out.keep hb0)).mono ?_
    rintro e w1 ⟨rfl, hb1⟩
    have hbw1 := bStep hb0 hb1
    have bt1 := bt0.keep hb1
    have bu1 := bu0.keep hb1
    obtain ⟨p0, p1, _, _⟩ := bt1.two
    obtain ⟨u0, u1, _, _⟩ := bu1.two
    clear s0 s1 t0 t1 hb0 hb1 bt0 bu0
    go_wp2_with fail
    refine bodyPost_ret (by simp [results, Try.results20, go_sem]; try rfl) rfl ?_
    exact ⟨_, by rw [HN.out.2], by rw [HN.out.1]; exact own_less (ownI_empty w1 rfl) (by have := hbw1.size; omega), bAlloc hbw1 _⟩
  cases ht : okB x y
  · have HN : Hid (satL L F x y = [] ∧ satB L F x y = false) := ⟨by simp [satL, satB_no2 ht], satB_no2 ht⟩
    go_enter Try.func20, Try.ntmps20
    go_wp2_with fail
    refine (specSpineOk_eq hk (HS.out.keep hb0)).mono ?_
    rintro e w1 ⟨rfl, hb1⟩
    have hbw1 := bStep hb0 hb1
    have bt1 := bt0.keep hb1
    have bu1 := bu0.keep hb1
    obtain ⟨p0, p1, _, _⟩ := bt1.two
    obtain ⟨u0, u1, _, _⟩ := bu1.two
    clear s0 s1 t0 t1 hb0 hb1 bt0 bu0
    go_wp2_with fail
    refine (specTimeOk_eq ht _).mono ?_
    rintro e w2 ⟨rfl, hb2⟩
    have hbw2 := bStep hbw1 hb2
    have bt2 := bt1.keep hb2
    have bu2 := bu1.keep hb2
    obtain ⟨y0, y1, _, _⟩ := bt2.two
    obtain ⟨v0, v1, _, _⟩ := bu2.two
    clear p0 p1 u0 u1 hbw1 hb2 bt1 bu1
    go_wp2_with fail
    refine bodyPost_ret (by simp [results, Try.results20, go_sem]; try rfl) rfl ?_
    exact ⟨_, by rw [HN.out.2], by rw [HN.out.1]; exact own_less (ownI_empty w2 rfl) (by have := hbw2.size; omega), bAlloc hbw2 _⟩
  have hrk := spok_rok hk
  have hfl := rok_len hrk
  by_cases h0 : F.length = 0
  · have hq : askedB F x y = true := asked_nil h0
    have HN : Hid (satL L F x y = itemsL L.flatten x y ∧ satB L F x y = true) := ⟨by simp [satL, satB_yes hk ht hq], satB_yes hk ht hq⟩
    have hF1 : decide ((0 : Int) < (F.length : Int)) = false := by simp [h0]
    clear h0
    go_enter Try.func20, Try.ntmps20
    go_wp2_with fail
    refine (specSpineOk_eq hk (HS.out.keep hb0)).mono ?_
    rintro e w1 ⟨rfl, hb1⟩
    have hbw1 := bStep hb0 hb1
    have bt1 := bt0.keep hb1
    have bu1 := bu0.keep hb1
    obtain ⟨p0, p1, _, _⟩ := bt1.two
    obtain ⟨u0, u1, _, _⟩ := bu1.two
    clear s0 s1 t0 t1 hb0 hb1 bt0 bu0
    go_wp2_with fail
    refine (specTimeOk_eq ht _).mono ?_
    rintro e w2 ⟨rfl, hb2⟩
    have hbw2 := bStep hbw1 hb2
    have bt2 := bt1.keep hb2
    have bu2 := bu1.keep hb2
    obtain ⟨y0, y1, _, _⟩ := bt2.two
    obtain ⟨v0, v1, _, _⟩ := bu2.two
    clear p0 p1 u0 u1 hbw1 hb2 bt1 bu1
    go_wp2_with fail
    · exfalso; have := of_decide_eq_false hF1; omega
    have hbA : Below w.heap.size w (w2.alloc (.cells #[] 65)) := bAlloc hbw2 _
    have btA : Bk (w2.alloc (.cells #[] 65)) w.heap.size #[.slice aL L.length cL, .slice aF F.length cF] 26 := bt2.alloc _
    have buA : Bk (w2.alloc (.cells #[] 65)) (w.heap.size + 1) #[.int .i64 x, .int .i64 y] 37 := bu2.alloc _
    have hszW := bu2.lt
    have o0 : OwnR (w2.alloc (.cells #[] 65)) (w.heap.size + 2) (.slice (some ⟨w2.heap.size, 0, none⟩) 0 0) [] := own_less (ownR_empty w2 rfl) (by omega)
    have hsA : w.heap.size + 2 ≤ (w2.alloc (.cells #[] 65)).heap.size := by simp; omega
    generalize (w2.alloc (.cells #[] 65)) = wA at *
    go_loopw [6, 7] (fun o b wr => ∃ k : Nat, k ≤ L.length ∧ b = .int .i64 k ∧ OwnR wr (w.heap.size + 2) o (L.take k).flatten ∧ Bk wr w.heap.size #[.slice aL L.length cL, .slice aF F.length cF] 26 ∧ Bk wr (w.heap.size + 1) #[.int .i64 x, .int .i64 y] 37 ∧ w.heap.size + 2 ≤ wr.heap.size ∧ Below w.heap.size w wr) (fun _ b _ => L.length - (intOf b).toNat)
    case atStart => exact ⟨0, by omega, rfl, o0, btA, buA, hsA, hbA⟩
    case round =>
      clear o0 btA buA hsA hbA
      obtain ⟨k, hk', rfl, hown, bt, bu, hsz, hb⟩ := hrel
      have HO : Hid (OwnR wr (w.heap.size + 2) u6 (L.take k).flatten) := hown
      obtain ⟨s0, s1, _, _⟩ := bt.two
      obtain ⟨t0, t1, _, _⟩ := bu.two
      clear hown
      by_cases hlt : k < L.length
      · obtain ⟨g, off, ad, cp, rfl, hg, c0, hR⟩ := HC.out k hlt
        have ik : (k : Int) < (L.length : Int) := by omega
        have d0 := cell_below hb c0
        have R1 := hR.keep hb
        have O1 : OwnR wr (w.heap.size + 2) u6 (L.take k).flatten := HO.out
        have HZ : Hid ((L.take (k + 1)).flatten = (L.take k).flatten ++ gl L k) := flat_snoc hlt
        have h1 := flat_len_le L (k + 1)
        rw [HZ.out, List.length_append] at h1
        clear HO c0 hR
        generalize (L.take k).flatten = P at *
        generalize gl L k = G at *
        go_wp2_with (at_builtin; refine appRs _ rfl _ _ rfl (w.heap.size + 2) _ P rfl O1 _ G rfl R1 (by omega) (by omega) ?_; intro v5 w5 own5 hg5)
        have hb5 : Below w.heap.size w w5 := Below.grew hb hg5 (by omega) (fun q e => by have := ownK_base O1 q e; omega)
        have bt5 := Bk.grew bt hg5 (fun q e => by have := ownK_base O1 q e; omega)
        have bu5 := Bk.grew bu hg5 (fun q e => by have := ownK_base O1 q e; omega)
        have hs5 := hg5.size
        exact ⟨⟨k + 1, by omega, by go_num, by rw [HZ.out]; exact own5, bt5, bu5, by omega, hb5⟩, by simp [intOf]; omega⟩
      · obtain rfl : k = L.length := by omega
        have O1 : OwnR wr (w.heap.size + 2) u6 L.flatten := by have := HO.out; rw [List.take_length] at this; exact this
        have R1 := OwnR.rs O1 (by omega)
        have hsw := hb.size
        clear HO O1
        go_wp2_with fail
        refine (specAt_any _ L.flatten x y _ R1).mono ?_
        rintro e w4 ⟨o4, rfl, own4, hb4⟩
        have O4 : Hid (OwnI w4 wr.heap.size o4 (itemsL L.flatten x y)) := own4
        clear own4
        go_wp2_with fail
        refine bodyPost_ret (by simp [results, Try.results20, go_sem]; try rfl) rfl ?_
        exact ⟨_, by rw [HN.out.2], by rw [HN.out.1]; exact own_less O4.out hsw, bStep hb hb4⟩
  have hF0 : (0 : Int) < (F.length : Int) := by omega
  have hF1 : decide ((0 : Int) < (F.length : Int)) = true := by simpa using hF0
  cases hcv : (fokB F && anyB F x y)
  · have hq : askedB F x y = false := by rw [asked_cov h0, hcv]
    have HN : Hid (satL L F x y = [] ∧ satB L F x y = false) := ⟨by simp [satL, satB_no3 hq], satB_no3 hq⟩
    go_enter Try.func20, Try.ntmps20
    go_wp2_with fail
    refine (specSpineOk_eq hk (HS.out.keep hb0)).mono ?_
    rintro e w1 ⟨rfl, hb1⟩
    have hbw1 := bStep hb0 hb1
    have bt1 := bt0.keep hb1
    have bu1 := bu0.keep hb1
    obtain ⟨p0, p1, _, _⟩ := bt1.two
    obtain ⟨u0, u1, _, _⟩ := bu1.two
    clear s0 s1 t0 t1 hb0 hb1 bt0 bu0
    go_wp2_with fail
    refine (specTimeOk_eq ht _).mono ?_
    rintro e w2 ⟨rfl, hb2⟩
    have hbw2 := bStep hbw1 hb2
    have bt2 := bt1.keep hb2
    have bu2 := bu1.keep hb2
    obtain ⟨y0, y1, _, _⟩ := bt2.two
    obtain ⟨v0, v1, _, _⟩ := bu2.two
    clear p0 p1 u0 u1 hbw1 hb2 bt1 bu1
    go_wp2_with fail
    refine (specCovers_eq hcv (HS.out.keep hbw2).2).mono ?_
    rintro e w3 ⟨rfl, hb3⟩
    have hbw3 := bStep hbw2 hb3
    have bt3 := bt2.keep hb3
    have bu3 := bu2.keep hb3
    obtain ⟨z0, z1, _, _⟩ := bt3.two
    obtain ⟨q0, q1, _, _⟩ := bu3.two
    clear y0 y1 v0 v1 hbw2 hb3 bt2 bu2
    go_wp2_with fail
    refine bodyPost_ret (by simp [results, Try.results20, go_sem]; try rfl) rfl ?_
    exact ⟨_, by rw [HN.out.2], by rw [HN.out.1]; exact own_less (ownI_empty w3 rfl) (by have := hbw3.size; omega), bAlloc hbw3 _⟩
  · have hq : askedB F x y = true := by rw [asked_cov h0, hcv]
    have HN : Hid (satL L F x y = itemsL L.flatten x y ∧ satB L F x y = true) := ⟨by simp [satL, satB_yes hk ht hq], satB_yes hk ht hq⟩
    go_enter Try.func20, Try.ntmps20
    go_wp2_with fail
    refine (specSpineOk_eq hk (HS.out.keep hb0)).mono ?_
    rintro e w1 ⟨rfl, hb1⟩
    have hbw1 := bStep hb0 hb1
    have bt1 := bt0.keep hb1
    have bu1 := bu0.keep hb1
    obtain ⟨p0, p1, _, _⟩ := bt1.two
    obtain ⟨u0, u1, _, _⟩ := bu1.two
    clear s0 s1 t0 t1 hb0 hb1 bt0 bu0
    go_wp2_with fail
    refine (specTimeOk_eq ht _).mono ?_
    rintro e w2 ⟨rfl, hb2⟩
    have hbw2 := bStep hbw1 hb2
    have bt2 := bt1.keep hb2
    have bu2 := bu1.keep hb2
    obtain ⟨y0, y1, _, _⟩ := bt2.two
    obtain ⟨v0, v1, _, _⟩ := bu2.two
    clear p0 p1 u0 u1 hbw1 hb2 bt1 bu1
    go_wp2_with fail
    refine (specCovers_eq hcv (HS.out.keep hbw2).2).mono ?_
    rintro e w3 ⟨rfl, hb3⟩
    have hbw3 := bStep hbw2 hb3
    have bt3 := bt2.keep hb3
    have bu3 := bu2.keep hb3
    obtain ⟨z0, z1, _, _⟩ := bt3.two
    obtain ⟨q0, q1, _, _⟩ := bu3.two
    clear y0 y1 v0 v1 hbw2 hb3 bt2 bu2
    go_wp2_with fail
    have hbA : Below w.heap.size w (w3.alloc (.cells #[] 65)) := bAlloc hbw3 _
    have btA : Bk (w3.alloc (.cells #[] 65)) w.heap.size #[.slice aL L.length cL, .slice aF F.length cF] 26 := bt3.alloc _
    have buA : Bk (w3.alloc (.cells #[] 65)) (w.heap.size + 1) #[.int .i64 x, .int .i64 y] 37 := bu3.alloc _
    have hszW := bu3.lt
    have o0 : OwnR (w3.alloc (.cells #[] 65)) (w.heap.size + 2) (.slice (some ⟨w3.heap.size, 0, none⟩) 0 0) [] := own_less (ownR_empty w3 rfl) (by omega)
    have hsA : w.heap.size + 2 ≤ (w3.alloc (.cells #[] 65)).heap.size := by simp; omega
    generalize (w3.alloc (.cells #[] 65)) = wA at *
    go_loopw [6, 7] (fun o b wr => ∃ k : Nat, k ≤ L.length ∧ b = .int .i64 k ∧ OwnR wr (w.heap.size + 2) o (L.take k).flatten ∧ Bk wr w.heap.size #[.slice aL L.length cL, .slice aF F.length cF] 26 ∧ Bk wr (w.heap.size + 1) #[.int .i64 x, .int .i64 y] 37 ∧ w.heap.size + 2 ≤ wr.heap.size ∧ Below w.heap.size w wr) (fun _ b _ => L.length - (intOf b).toNat)
    case atStart => exact ⟨0, by omega, rfl, o0, btA, buA, hsA, hbA⟩
    case round =>
      clear o0 btA buA hsA hbA
      obtain ⟨k, hk', rfl, hown, bt, bu, hsz, hb⟩ := hrel
      have HO : Hid (OwnR wr (w.heap.size + 2) u6 (L.take k).flatten) := hown
      obtain ⟨s0, s1, _, _⟩ := bt.two
      obtain ⟨t0, t1, _, _⟩ := bu.two
      clear hown
      by_cases hlt : k < L.length
      · obtain ⟨g, off, ad, cp, rfl, hg, c0, hR⟩ := HC.out k hlt
        have ik : (k : Int) < (L.length : Int) := by omega
        have d0 := cell_below hb c0
        have R1 := hR.keep hb
        have O1 : OwnR wr (w.heap.size + 2) u6 (L.take k).flatten := HO.out
        have HZ : Hid ((L.take (k + 1)).flatten = (L.take k).flatten ++ gl L k) := flat_snoc hlt
        have h1 := flat_len_le L (k + 1)
        rw [HZ.out, List.length_append] at h1
        clear HO c0 hR
        generalize (L.take k).flatten = P at *
        generalize gl L k = G at *
        go_wp2_with (at_builtin; refine appRs _ rfl _ _ rfl (w.heap.size + 2) _ P rfl O1 _ G rfl R1 (by omega) (by omega) ?_; intro v5 w5 own5 hg5)
        have hb5 : Below w.heap.size w w5 := Below.grew hb hg5 (by omega) (fun q e => by have := ownK_base O1 q e; omega)
        have bt5 := Bk.grew bt hg5 (fun q e => by have := ownK_base O1 q e; omega)
        have bu5 := Bk.grew bu hg5 (fun q e => by have := ownK_base O1 q e; omega)
        have hs5 := hg5.size
        exact ⟨⟨k + 1, by omega, by go_num, by rw [HZ.out]; exact own5, bt5, bu5, by omega, hb5⟩, by simp [intOf]; omega⟩
      · obtain rfl : k = L.length := by omega
        have O1 : OwnR wr (w.heap.size + 2) u6 L.flatten := by have := HO.out; rw [List.take_length] at this; exact this
        have R1 := OwnR.rs O1 (by omega)
        have hsw := hb.size
        clear HO O1
        go_wp2_with fail
        refine (specAt_any _ L.flatten x y _ R1).mono ?_
        rintro e w4 ⟨o4, rfl, own4, hb4⟩
        have O4 : Hid (OwnI w4 wr.heap.size o4 (itemsL L.flatten x y)) := own4
        clear own4
        go_wp2_with fail
        refine bodyPost_ret (by simp [results, Try.results20, go_sem]; try rfl) rfl ?_
        exact ⟨_, by rw [HN.out.2], by rw [HN.out.1]; exact own_less O4.out hsw, bStep hb hb4⟩
end Go.Proofs.Ytnegpfkmghdipaa
