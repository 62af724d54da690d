/- SpineAll and SpineAt of the program, SpineAll of the model: the contracts. -/
import Derived.Test.YtjkojbafifbdgaaGreatZs2
import Derived.Deep.RegionHeld3
namespace Go.Proofs.YtjkojbafifbdgaaGreat
open Go.RowKit Go.Shelf

def sallL (L : List (List Rw)) (F : List (Int × Int)) : List Rw := if spokB L F then sumF L.flatten else []
theorem sall_len (L : List (List Rw)) (F : List (Int × Int)) : (sallL L F).length ≤ 400 := by
  unfold sallL; split
  · exact sumF_len4 _
  · simp
def satB (L : List (List Rw)) (F : List (Int × Int)) (x y : Int) : Bool := spokB L F && okB x y && askedB F x y
def satL (L : List (List Rw)) (F : List (Int × Int)) (x y : Int) : List It := if satB L F x y then itemsL L.flatten x y else []
theorem satB_no1 {L : List (List Rw)} {F : List (Int × Int)} {x y : Int} (h : spokB L F = false) : satB L F x y = false := by simp [satB, h]
theorem satB_no2 {L : List (List Rw)} {F : List (Int × Int)} {x y : Int} (h : okB x y = false) : satB L F x y = false := by simp [satB, h]
theorem satB_no3 {L : List (List Rw)} {F : List (Int × Int)} {x y : Int} (h : askedB F x y = false) : satB L F x y = false := by simp [satB, h]
theorem satB_yes {L : List (List Rw)} {F : List (Int × Int)} {x y : Int} (h1 : spokB L F = true) (h2 : okB x y = true) (h3 : askedB F x y = true) : satB L F x y = true := by simp [satB, h1, h2, h3]
theorem Spn.open {w : World} {lv fv : Value} {L : List (List Rw)} {F : List (Int × Int)} (h : Spn w lv fv L F) : ∃ aL cL aF cF, lv = .slice aL L.length cL ∧ fv = .slice aF F.length cF := by
  obtain ⟨aL, cL, e1, -⟩ := Ly.open h.1
  obtain ⟨aF, cF, e2, -⟩ := h.2
  exact ⟨aL, cL, aF, cF, e1, e2⟩
theorem implSpineOk_eq {L : List (List Rw)} {F : List (Int × Int)} {r : Bool} (e : spokB L F = r) {lv fv : Value} {w : World} (h : Spn w lv fv L F) :
    Calls Tryz.prog 8 #[spv lv fv] w fun e w' => e = .returned (.bool r) ∧ Below w.heap.size w w' := by
  rw [← e]; exact implSpineOk_any lv fv L F w h
theorem specSpineOk_eq {L : List (List Rw)} {F : List (Int × Int)} {r : Bool} (e : spokB L F = r) {lv fv : Value} {w : World} (h : Spn w lv fv L F) :
    Calls Tryz.prog 9 #[spv lv fv] w fun e w' => e = .returned (.bool r) ∧ Below w.heap.size w w' := by
  rw [← e]; exact specSpineOk_any lv fv L F w h
theorem mayBeAsked_eq {F : List (Int × Int)} {x y : Int} {r : Bool} (e : askedB F x y = r) {v : Value} {w : World} (h : Ts w v F) :
    Calls Tryz.prog 86 #[v, tv x y] w fun e w' => e = .returned (.bool r) ∧ Below w.heap.size w w' := by
  rw [← e]; exact mayBeAsked_any v F x y w h
set_option maxHeartbeats 4000000 in
theorem implSpineAll_any (lv fv : Value) (L : List (List Rw)) (F : List (Int × Int)) (w : World) (h : Spn w lv fv L F) :
    Calls Tryz.prog 14 #[spv lv fv] w fun e w' => ∃ o : Value, e = .returned o ∧ OwnR w' w.heap.size o (sallL L F) ∧ Below w.heap.size w w' := by
  have HS := (show Hid (Spn w lv fv L F) from h)
  obtain ⟨aL, cL, aF, cF, rfl, rfl⟩ := Spn.open h
  have bt0 : Bk (w.alloc (.cells #[.slice aL L.length cL, .slice aF F.length cF] 26)) w.heap.size #[.slice aL L.length cL, .slice aF F.length cF] 26 := Bk.new _ _ rfl
  have hb0 : Below w.heap.size w (w.alloc (.cells #[.slice aL L.length cL, .slice aF F.length cF] 26)) := bAlloc (Below.refl _ _) _
  obtain ⟨s0, s1, _, _⟩ := bt0.two
  clear h
  cases hk : spokB L F
  · have HN : Hid (sallL L F = []) := by show _ = _; simp [sallL, hk]
    go_enter Tryz.func14, Tryz.ntmps14
    go_wp2_with fail
    refine (implSpineOk_eq hk (HS.out.keep hb0)).mono ?_
    rintro e w1 ⟨rfl, hb1⟩
    go_wp2_with fail
    go_ret
    exact ⟨_, rfl, by rw [HN.out]; exact ownK_nil _ _ _ _ _, bStep hb0 hb1⟩
  · have hrk := spok_rok hk
    have hfl := rok_len hrk
    have HN : Hid (sallL L F = batchL L.flatten) := by show _ = _; simp [sallL, hk, batchL, hrk]
    go_enter Tryz.func14, Tryz.ntmps14
    go_wp2_with fail
    refine (implSpineOk_eq hk (HS.out.keep hb0)).mono ?_
    rintro e w1 ⟨rfl, hb1⟩
    have hbw1 := bStep hb0 hb1
    obtain ⟨r0, r1, _, _⟩ := (bt0.keep hb1).two
    clear s0 s1 bt0 hb0 hb1
    go_wp2_with fail
    refine (concatL_any _ L w1 (HS.out.keep hbw1).1 (by omega)).mono ?_
    rintro e w2 ⟨o2, rfl, own2, hb2⟩
    have R2 := OwnR.rs own2 (by omega)
    have hbw2 := bStep hbw1 hb2
    have hs2 := hbw2.size
    clear own2 hb2 hbw1 r0 r1
    go_wp2_with fail
    refine (implBatchOf_any _ L.flatten w2 R2).mono ?_
    rintro e w3 ⟨o3, rfl, own3, hb3⟩
    have O3 : Hid (OwnR w3 w2.heap.size o3 (batchL L.flatten)) := own3
    clear own3
    go_wp2_with fail
    go_ret
    exact ⟨_, rfl, by rw [HN.out]; exact own_less O3.out hs2, bStep hbw2 hb3⟩
set_option maxRecDepth 100000 in
set_option maxHeartbeats 8000000 in
theorem implSpineAt_any (lv fv : Value) (L : List (List Rw)) (F : List (Int × Int)) (x y : Int) (w : World) (h : Spn w lv fv L F) :
    Calls Tryz.prog 41 #[spv lv fv, tv x y] w fun e w' => ∃ o : Value, e = .returned (.tuple #[o, .bool (satB L F x y)]) ∧ OwnI w' w.heap.size o (satL L F x y) ∧ Below w.heap.size w w' := by
  have HS := (show Hid (Spn w lv fv L F) from h)
  obtain ⟨aL, cL, aF, cF, rfl, rfl⟩ := Spn.open h
  have bt0 : Bk ((w.alloc (.cells #[.slice aL L.length cL, .slice aF F.length cF] 26)).alloc (.cells #[.int .i64 x, .int .i64 y] 71)) w.heap.size #[.slice aL L.length cL, .slice aF F.length cF] 26 := (Bk.new _ _ rfl).alloc _
  have bu0 : Bk ((w.alloc (.cells #[.slice aL L.length cL, .slice aF F.length cF] 26)).alloc (.cells #[.int .i64 x, .int .i64 y] 71)) (w.heap.size + 1) #[.int .i64 x, .int .i64 y] 71 := Bk.new (w := w.alloc _) _ _ (by simp)
  have hb0 : Below w.heap.size w ((w.alloc (.cells #[.slice aL L.length cL, .slice aF F.length cF] 26)).alloc (.cells #[.int .i64 x, .int .i64 y] 71)) := bAlloc (bAlloc (Below.refl _ _) _) _
  obtain ⟨s0, s1, _, _⟩ := bt0.two
  obtain ⟨t0, t1, _, _⟩ := bu0.two
  clear h
  cases hk : spokB L F
  · have HN : Hid (satL L F x y = [] ∧ satB L F x y = false) := ⟨by simp [satL, satB_no1 hk], satB_no1 hk⟩
    go_enter Tryz.func41, Tryz.ntmps41
    go_wp2_with fail
    refine (implSpineOk_eq hk (HS.out.keep hb0)).mono ?_
    rintro e w1 ⟨rfl, hb1⟩
    go_wp2_with fail
    refine bodyPost_ret (by simp [results, Tryz.results41, go_sem]; try rfl) rfl ?_
    exact ⟨_, by rw [HN.out.2], by rw [HN.out.1]; exact ownK_nil _ _ _ _ _, bStep hb0 hb1⟩
  cases ht : okB x y
  · have HN : Hid (satL L F x y = [] ∧ satB L F x y = false) := ⟨by simp [satL, satB_no2 ht], satB_no2 ht⟩
    go_enter Tryz.func41, Tryz.ntmps41
    go_wp2_with fail
    refine (implSpineOk_eq hk (HS.out.keep hb0)).mono ?_
    rintro e w1 ⟨rfl, hb1⟩
    have hbw1 := bStep hb0 hb1
    obtain ⟨u0, u1, _, _⟩ := (bu0.keep hb1).two
    clear s0 s1 t0 t1 hb0 hb1 bt0 bu0
    go_wp2_with fail
    refine (implTimeOk_eq ht _).mono ?_
    rintro e w2 ⟨rfl, hb2⟩
    go_wp2_with fail
    refine bodyPost_ret (by simp [results, Tryz.results41, go_sem]; try rfl) rfl ?_
    exact ⟨_, by rw [HN.out.2], by rw [HN.out.1]; exact ownK_nil _ _ _ _ _, bStep hbw1 hb2⟩
  cases hq : askedB F x y
  · have HN : Hid (satL L F x y = [] ∧ satB L F x y = false) := ⟨by simp [satL, satB_no3 hq], satB_no3 hq⟩
    go_enter Tryz.func41, Tryz.ntmps41
    go_wp2_with fail
    refine (implSpineOk_eq hk (HS.out.keep hb0)).mono ?_
    rintro e w1 ⟨rfl, hb1⟩
    have hbw1 := bStep hb0 hb1
    obtain ⟨u0, u1, _, _⟩ := (bu0.keep hb1).two
    have bt1 := bt0.keep hb1
    have bu1 := bu0.keep hb1
    clear s0 s1 t0 t1 hb0 hb1 bt0 bu0
    go_wp2_with fail
    refine (implTimeOk_eq ht _).mono ?_
    rintro e w2 ⟨rfl, hb2⟩
    have hbw2 := bStep hbw1 hb2
    obtain ⟨v0, v1, _, _⟩ := (bu1.keep hb2).two
    obtain ⟨y0, y1, _, _⟩ := (bt1.keep hb2).two
    clear u0 u1 bt1 bu1 hb2 hbw1
    go_wp2_with fail
    refine (mayBeAsked_eq hq (HS.out.keep hbw2).2).mono ?_
    rintro e w3 ⟨rfl, hb3⟩
    go_wp2_with fail
    refine bodyPost_ret (by simp [results, Tryz.results41, go_sem]; try rfl) rfl ?_
    exact ⟨_, by rw [HN.out.2], by rw [HN.out.1]; exact ownK_nil _ _ _ _ _, bStep hbw2 hb3⟩
  have HN : Hid (satL L F x y = itemsL L.flatten x y ∧ satB L F x y = true) := ⟨by simp [satL, satB_yes hk ht hq], satB_yes hk ht hq⟩
  have hrk := spok_rok hk
  have hfl := rok_len hrk
  go_enter Tryz.func41, Tryz.ntmps41
  go_wp2_with fail
  refine (implSpineOk_eq hk (HS.out.keep hb0)).mono ?_
  rintro e w1 ⟨rfl, hb1⟩
  have hbw1 := bStep hb0 hb1
  obtain ⟨u0, u1, _, _⟩ := (bu0.keep hb1).two
  have bt1 := bt0.keep hb1
  have bu1 := bu0.keep hb1
  clear s0 s1 t0 t1 hb0 hb1 bt0 bu0
  go_wp2_with fail
  refine (implTimeOk_eq ht _).mono ?_
  rintro e w2 ⟨rfl, hb2⟩
  have hbw2 := bStep hbw1 hb2
  have bt2 := bt1.keep hb2
  have bu2 := bu1.keep hb2
  obtain ⟨v0, v1, _, _⟩ := bu2.two
  obtain ⟨y0, y1, _, _⟩ := bt2.two
  clear u0 u1 bt1 bu1 hb2 hbw1
  go_wp2_with fail
  refine (mayBeAsked_eq hq (HS.out.keep hbw2).2).mono ?_
  rintro e w3 ⟨rfl, hb3⟩
  have hbw3 := bStep hbw2 hb3
  have hs3 := hbw3.size
  have HX : Hid (∀ W, Below w3.heap.size w3 W → W.cell? ⟨w.heap.size, 0, none⟩ = some (.slice aL L.length cL) ∧ W.cell? ⟨w.heap.size + 1, 0, none⟩ = some (.int .i64 x) ∧ W.cell? ⟨w.heap.size + 1, 1, none⟩ = some (.int .i64 y)) := fun W hW => ⟨((bt2.keep hb3).keep hW).two.1, ((bu2.keep hb3).keep hW).two.1, ((bu2.keep hb3).keep hW).two.2.1⟩
  have HLY : Hid (∀ W, Below w3.heap.size w3 W → Ly W (.slice aL L.length cL) L) := fun W hW => ((HS.out.keep hbw3).keep hW).1
  obtain ⟨z0, z1, z2⟩ := HX.out w3 (Below.refl _ _)
  have hcur : Below w3.heap.size w3 w3.drew := (Below.refl _ _).drew
  clear v0 v1 y0 y1 bt2 bu2 hb3 hbw2
  go_wp2_with fail
  go_region_held3 (fun W => W.cell? ⟨w.heap.size, 0, none⟩ = some (.slice aL L.length cL) ∧ W.cell? ⟨w.heap.size + 1, 0, none⟩ = some (.int .i64 x) ∧ W.cell? ⟨w.heap.size + 1, 1, none⟩ = some (.int .i64 y))
    (first | exact HX.out _ hcur | exact HX.out _ hcur2 | exact HX.out _ hcur3)
    (first
      | (go_at_call 48; with_reducible refine (concatL_any _ L _ (HLY.out _ hcur) (by omega)).mono ?_; rintro e wc ⟨oc, rfl, ownc, hbc⟩; have hcur2 : Below w3.heap.size w3 wc := bStep hcur hbc; have RC := OwnR.rs ownc (by omega))
      | (go_at_call 87; with_reducible refine (implAt_any oc L.flatten x y _ RC).mono ?_; rintro e wd ⟨od, rfl, ownd, hbd⟩; have hcur3 : Below w3.heap.size w3 wd := bStep hcur2 hbd; have OD := own_less ownd hcur2.size))
  all_goals
    have OE : Hid (OwnI wd w3.heap.size od (itemsL L.flatten x y)) := OD
    clear ownd OD
    go_wp2_with fail
    refine bodyPost_ret (by simp [results, Tryz.results41, go_sem]; try rfl) rfl ?_
    exact ⟨_, by rw [HN.out.2], by rw [HN.out.1]; exact own_less OE.out hs3, bStep hbw3 hcur3⟩
end Go.Proofs.YtjkojbafifbdgaaGreat
