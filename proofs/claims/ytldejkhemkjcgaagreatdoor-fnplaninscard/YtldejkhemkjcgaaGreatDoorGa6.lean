import Derived.Test.YtldejkhemkjcgaaGreatDoorGa5
import Derived.Test.YtldejkhemkjcgaaGreatDoorGa3
import Derived.WalkSpells
import Derived.Deep.RegionWith
import Derived.Test.YtldejkhemkjcgaaGreatDoorGa4
namespace Go.Proofs.YtldejkhemkjcgaaGreatDoor
open Go.RowKit
attribute [local go_sem ↓] Go.wp_at_zero Go.wp_at_succ
def mvP (l : List (Int × Int)) (x y : Int) : Nat → Int × Int
  | 0 => (jnA x y (tA l 0) (tB l 0), jnB x y (tA l 0) (tB l 0))
  | k + 1 => (mtA (mvP l x y k).1 (mvP l x y k).2 (jnA x y (tA l (k + 1)) (tB l (k + 1))) (jnB x y (tA l (k + 1)) (tB l (k + 1))), mtB (mvP l x y k).1 (mvP l x y k).2 (jnA x y (tA l (k + 1)) (tB l (k + 1))) (jnB x y (tA l (k + 1)) (tB l (k + 1))))
def moveV (l : List (Int × Int)) (x y : Int) : Int × Int := if fokB l && okB x y then (if l.length = 0 then (x, y) else mvP l x y (l.length - 1)) else (0, 0)
theorem keep_k {C : Prop} {w w1 : World} {k : Nat} {x y : Value} {t : TypeId} (hb : Below w.heap.size w w1) (h : Bk w k #[x, y] t)
    (c : Bk w1 k #[x, y] t → w1.cell? ⟨k, 0, none⟩ = some x → w1.cell? ⟨k, 1, none⟩ = some y → w1.frozen? ⟨k, 0, none⟩ = false → w1.frozen? ⟨k, 1, none⟩ = false → C) : C :=
  have a := h.keep hb
  c a a.two.1 a.two.2.1 a.two.2.2.1 a.two.2.2.2
theorem fin2 {K : World → Prop} {B R1 : Nat} {w0 w : World} {x0 y0 a b : Value} {t : TypeId} (h1 : Bk w R1 #[x0, y0] t) (hb : Below B w0 w) (hB1 : B ≤ R1)
    (k : ∀ W, Bk W R1 #[a, b] t → Below B w0 W → K W) : K ((w.setCell ⟨R1, 0, none⟩ a).setCell ⟨R1, 1, none⟩ b) :=
  k _ (h1.set01 a b) ((hb.setCell hB1 a).setCell hB1 b)
theorem tail_times (gf off n cap : Nat) (h1 : 1 ≤ n) (hc : n ≤ cap) (hm : cap ≤ maxLen) : ∃ a1 c1 : Nat, (1 < n → a1 = off + 2) ∧ ∀ u : World, (Instr.slice 33 (.slice (some ⟨gf, off, none⟩) n cap) (some (.int .i64 1)) Option.none Option.none).run Tryz.prog u = .ok (.slice (some ⟨gf, a1, none⟩) (n - 1) c1) u := by
  have ht : Tryz.prog.underlying 33 = some (.slice (Tryz.prog.elem 33)) := by kernel_rfl
  have hs : ∀ u : World, (sizeOf (Tryz.prog.elem 33)).run Tryz.prog u = .ok 2 u := fun u => by kernel_rfl
  by_cases h : cap = 1
  · subst h
    refine ⟨off, 0, fun h => by omega, fun u => ?_⟩
    obtain rfl : n = 1 := by omega
    rw [run_slice_l (P := Tryz.prog) u 33 _ _ _ ht .i64 1 (by omega) (by omega), hs u]
    simp [Result.andThen, sliced]
  · refine ⟨off + 2, cap - 1, fun _ => rfl, fun u => ?_⟩
    rw [run_slice_l (P := Tryz.prog) u 33 _ _ _ ht .i64 1 (by omega) (by omega), hs u]
    simp [Result.andThen, sliced, Addr.add]; exact h
set_option maxHeartbeats 8000000 in
theorem implFrontMove_any (v : Value) (l : List (Int × Int)) (x y : Int) (w : World) (h : Ts w v l) :
    Calls Tryz.prog 107 #[v, tv x y] w fun e w' => e = .returned (tv (moveV l x y).1 (moveV l x y).2) ∧ Below w.heap.size w w' := by
  have HV : Hid (moveV l x y = if fokB l && okB x y then (if l.length = 0 then (x, y) else mvP l x y (l.length - 1)) else (0, 0)) := rfl
  have bT : Bk ((w.alloc (.cells #[.int .i64 x, .int .i64 y] 41)).alloc (.cells #[.int .i64 0, .int .i64 0] 41)) w.heap.size #[.int .i64 x, .int .i64 y] 41 := (Bk.new _ _ rfl).alloc _
  have bR : Bk ((w.alloc (.cells #[.int .i64 x, .int .i64 y] 41)).alloc (.cells #[.int .i64 0, .int .i64 0] 41)) (w.heap.size + 1) #[.int .i64 0, .int .i64 0] 41 := Bk.new _ _ (by simp)
  have hb0 : Below w.heap.size w ((w.alloc (.cells #[.int .i64 x, .int .i64 y] 41)).alloc (.cells #[.int .i64 0, .int .i64 0] 41)) := bAlloc (bAlloc (Below.refl _ _) _) _
  have t0 := h.keep hb0
  go_enter Tryz.func107, Tryz.ntmps107
  go_wp2_with fail
  generalize ((w.alloc (.cells #[.int .i64 x, .int .i64 y] 41)).alloc (.cells #[.int .i64 0, .int .i64 0] 41)) = W at *
  refine (implFrontOk_any v l _ t0).mono ?_
  rintro e w1 ⟨rfl, hb1⟩
  have bT1 := bT.keep hb1
  have bR1 := bR.keep hb1
  have hbw1 := bStep hb0 hb1
  clear t0 bT bR hb0 hb1
  obtain ⟨p0, p1, _, _⟩ := bT1.two
  obtain ⟨r0, r1, fr0, fr1⟩ := bR1.two
  cases hf : fokB l
  · go_wp2_with fail
    refine bodyPost_ret (by simp [results, Tryz.results107, go_sem, set1a bR1, set2b bR1]; try rfl) rfl ?_
    refine ⟨ret_tv (by rw [HV.out]; simp [hf]) (by rw [HV.out]; simp [hf]), ?_⟩
    repeat' (first | (with_reducible exact Below.refl _ _) | (with_reducible assumption) | (with_reducible refine bStep ?_ (by with_reducible assumption)) | (with_reducible refine bAlloc ?_ _) | (with_reducible refine Below.drew ?_) | (with_reducible refine bDrewN ?_ _) | (with_reducible refine Below.setCell ?_ ?_ _) | (simp; done) | (simp; omega) | omega)
  go_wp2_with fail
  refine (implOk_any _ _ _).mono ?_
  rintro e w2 ⟨rfl, hb2⟩
  have bT2 := bT1.keep hb2
  have bR2 := bR1.keep hb2
  have hbw2 := bStep hbw1 hb2
  clear bT1 bR1 hbw1 hb2 p0 p1 r0 r1 fr0 fr1
  obtain ⟨p0, p1, _, _⟩ := bT2.two
  obtain ⟨r0, r1, fr0, fr1⟩ := bR2.two
  cases ho : okB x y
  · go_wp2_with fail
    refine bodyPost_ret (by simp [results, Tryz.results107, go_sem, set1a bR2, set2b bR2]; try rfl) rfl ?_
    refine ⟨ret_tv (by rw [HV.out]; simp [ho]) (by rw [HV.out]; simp [ho]), ?_⟩
    repeat' (first | (with_reducible exact Below.refl _ _) | (with_reducible assumption) | (with_reducible refine bStep ?_ (by with_reducible assumption)) | (with_reducible refine bAlloc ?_ _) | (with_reducible refine Below.drew ?_) | (with_reducible refine bDrewN ?_ _) | (with_reducible refine Below.setCell ?_ ?_ _) | (simp; done) | (simp; omega) | omega)
  have tf := h.keep hbw2
  obtain ⟨a, cap, rfl, hc, hm, hn, hcells⟩ := tf
  have hm' := hm
  unfold maxLen at hm
  generalize hN : l.length = n at *
  have HN : Hid (l.length = n) := hN
  clear hN
  by_cases hl : n = 0
  · subst hl
    go_wp2_with fail
    refine bodyPost_ret (by simp [results, Tryz.results107, go_sem, set1a bR2, set2b bR2]; try rfl) rfl ?_
    refine ⟨ret_tv (by rw [HV.out, if_pos (by simp [hf, ho])]; simp) (by rw [HV.out, if_pos (by simp [hf, ho])]; simp), ?_⟩
    repeat' (first | (with_reducible exact Below.refl _ _) | (with_reducible assumption) | (with_reducible refine bStep ?_ (by with_reducible assumption)) | (with_reducible refine bAlloc ?_ _) | (with_reducible refine Below.drew ?_) | (with_reducible refine bDrewN ?_ _) | (with_reducible refine Below.setCell ?_ ?_ _) | (simp; done) | (simp; omega) | omega)
  have hl' : ((n : Int) == 0) = false := beq_eq_false_iff_ne.2 (by omega)
  obtain ⟨gf, off, rfl, hg, c0, c1⟩ := hcells 0 (by omega)
  simp only [Nat.zero_mul, Nat.add_zero] at c0 c1
  have HC := (show Hid _ from hcells)
  clear hcells
  have ipn : 0 < n := by omega
  have ipos : (0 : Int) < (n : Int) := by omega
  have ipos1 : (1 : Int) ≤ (n : Int) := by omega
  generalize hX : tA l 0 = X at *
  generalize hY : tB l 0 = Y at *
  have E0 : Hid (mvP l x y 0 = (jnA x y X Y, jnB x y X Y)) := by show _ = _; rw [← hX, ← hY]; rfl
  clear hX hY
  have lt := bT2.lt
  go_wp2_with fail
  go_cut [5] (fun p wc => ∃ g : Nat, p = .pointer (some ⟨g, 0, none⟩) ∧ w2.heap.size ≤ g ∧ Bk wc g #[.int .i64 (jnA x y X Y), .int .i64 (jnB x y X Y)] 41 ∧ Below w2.heap.size w2 wc)
  case first =>
    go_region_held3 (fun w' => w'.cell? ⟨w.heap.size, 0, none⟩ = some (.int .i64 x) ∧ w'.cell? ⟨w.heap.size, 1, none⟩ = some (.int .i64 y) ∧ w'.cell? ⟨gf, off, none⟩ = some (.int .i64 X) ∧ w'.cell? ⟨gf, off + 1, none⟩ = some (.int .i64 Y)) (refine ⟨?_, ?_, ?_, ?_⟩ <;> repeat' (first | with_reducible assumption | with_reducible refine cell_drew ?_ | with_reducible refine cell_alloc ?_ | with_reducible refine cell_below (by with_reducible assumption) ?_ | with_reducible refine cell_apart ?_ ?_ | omega | (simp; done) | (simp; omega))) (first | (go_at_call 30; refine (implJoin_any _ _ _ _ _).mono ?_; rintro e w' ⟨rfl, hb⟩; have hz := hb.size; (try simp only [World.size_drew] at hz); (try simp only [World.size_alloc] at hz); (first | (with_reducible refine newfd_k hb ?_; intro _ _ _ _ _) | (with_reducible refine newf_k hb ?_; intro _ _ _ _ _) | (with_reducible refine oldf_k hb (by with_reducible assumption) (by with_reducible assumption) (by with_reducible assumption) (by with_reducible assumption) (by with_reducible assumption) ?_; intro _ _ _ _ _) | skip)))
    all_goals
      go_wp2_with fail
      go_meet
      case rel =>
        refine ⟨_, rfl, ?_, ?_, ?_⟩
        · first | omega | (simp; done) | (simp; omega)
        · repeat' (first | (with_reducible refine Bk.drew ?_) | (with_reducible refine Bk.drewN ?_ _) | (with_reducible refine Bk.new _ _ ?_; (first | with_reducible rfl | omega | (simp; done) | (simp; omega))) | (with_reducible refine Bk.alloc ?_ _) | (with_reducible refine Bk2.set01 ?_ _ _) | (with_reducible refine Bk2.drew ?_) | (with_reducible refine Bk2.new _ _ _ ?_; (first | with_reducible rfl | omega | (simp; done) | (simp; omega))) | (with_reducible refine Bk2.alloc ?_ _) | (with_reducible refine Bk2.keep ?_ (by with_reducible assumption)) | (with_reducible refine Bk.keep ?_ (by with_reducible assumption)))
        · repeat' (first | (with_reducible exact Below.refl _ _) | (with_reducible assumption) | (with_reducible refine bStep ?_ (by with_reducible assumption)) | (with_reducible refine bAlloc ?_ _) | (with_reducible refine Below.drew ?_) | (with_reducible refine bDrewN ?_ _) | (with_reducible refine Below.setCell ?_ ?_ _) | (simp; done) | (simp; omega) | omega)
  case rest =>
    obtain ⟨g, rfl, hgg, bg, hbc⟩ := hcut
    obtain ⟨a1, k1, ha1, hsl⟩ := tail_times gf off n cap (by omega) hc hm'
    have HA1 := (show Hid _ from ha1)
    clear ha1
    go_wp2_with fail
    go_loopw [29] (fun i wr => ∃ k : Nat, k ≤ n - 1 ∧ i = .int .i64 k ∧ Bk wr g #[.int .i64 (mvP l x y k).1, .int .i64 (mvP l x y k).2] 41 ∧ Below w2.heap.size w2 wr) (fun i _ => n - 1 - (intOf i).toNat)
    case atStart =>
      refine ⟨0, by omega, rfl, ?_, hbc⟩
      rw [E0.out]; exact bg
    case round =>
      clear bg hbc
      obtain ⟨k, hk, rfl, bg, hb⟩ := hrel
      by_cases hlt : k < n - 1
      · obtain ⟨gf', off', he, hg', d0, d1⟩ := HC.out (k + 1) (by omega)
        simp at he
        obtain ⟨rfl, rfl⟩ := he
        obtain rfl := HA1.out (by omega)
        have o1 : off + (k + 1) * 2 = off + 2 + k * 2 := by omega
        rw [o1] at d0 d1
        generalize hX' : tA l (k + 1) = X' at *
        generalize hY' : tB l (k + 1) = Y' at *
        generalize hM : (mvP l x y k).1 = M at *
        generalize hM' : (mvP l x y k).2 = M' at *
        have ES : Hid (mvP l x y (k + 1) = (mtA M M' (jnA x y X' Y') (jnB x y X' Y'), mtB M M' (jnA x y X' Y') (jnB x y X' Y'))) := by
          show _ = _; rw [← hX', ← hY', ← hM, ← hM']; rfl
        clear hX' hY' hM hM' o1
        have bT3 := bT2.keep hb
        have x0 := cell_below hb d0
        have x1 := cell_below hb d1
        clear d0 d1
        have bS4 := Bk.new (w := wr) #[.int .i64 X', .int .i64 Y'] 41 rfl
        have bT4 := bT3.alloc (.cells #[.int .i64 X', .int .i64 Y'] 41)
        have bG4 := bg.alloc (.cells #[.int .i64 X', .int .i64 Y'] 41)
        have hb4 := bAlloc hb (.cells #[.int .i64 X', .int .i64 Y'] 41)
        go_wp2_with fail
        clear x0 x1
        generalize (wr.alloc (.cells #[.int .i64 X', .int .i64 Y'] 41)) = w4 at *
        have bG5 : Bk w4.drew g #[.int .i64 M, .int .i64 M'] 41 := bG4.drew
        have hb5 : Hid (Below w2.heap.size w2 w4.drew) := hb4.drew
        obtain ⟨s0, s1, _, _⟩ := bS4.two
        obtain ⟨p0, p1, _, _⟩ := bT4.two
        obtain ⟨m0, m1, _, _⟩ := bG4.two
        have ng1 : wr.heap.size ≠ g := by have := bg.lt; omega
        have ng2 : w.heap.size ≠ g := by omega
        go_region_with (first | (go_at_call 30; refine (implJoin_any _ _ _ _ _).mono ?_; rintro e w' ⟨rfl, hb⟩; refine keep_k (k := g) hb (by with_reducible assumption) ?_; intro _ _ _ _ _; have hbn : Hid (Below w2.heap.size w2 w') := bStep (Hid.out (by with_reducible assumption)) hb) | (go_at_call 155; refine (implMeet_any _ _ _ _ _).mono ?_; rintro e w' ⟨rfl, hb⟩; refine keep_k (k := g) hb (by with_reducible assumption) ?_; intro _ _ _ _ _; have hbn : Hid (Below w2.heap.size w2 w') := bStep (Hid.out (by with_reducible assumption)) hb))
        all_goals
          refine fin2 (by with_reducible assumption) hbn.out hgg ?_
          intro W5 bG6 hb6
          go_wp2_with fail
          go_roundw
          case rel =>
            refine ⟨k + 1, by omega, by go_num, ?_, hb6⟩
            rw [ES.out]; exact bG6
          case measure => simp [intOf]; omega
      · obtain rfl : k = n - 1 := by omega
        have bR3 := bR2.keep hb
        have hbw3 := bStep hbw2 hb
        obtain ⟨m0, m1, _, _⟩ := bg.two
        obtain ⟨r0, r1, fr0, fr1⟩ := bR3.two
        go_wp2_with fail
        refine bodyPost_ret (by simp [results, Tryz.results107, go_sem, set1a bR3, set2b bR3]; try rfl) rfl ?_
        refine ⟨ret_tv (by rw [HV.out, if_pos (by simp [hf, ho]), if_neg hl]) (by rw [HV.out, if_pos (by simp [hf, ho]), if_neg hl]), ?_⟩
        repeat' (first | (with_reducible exact Below.refl _ _) | (with_reducible assumption) | (with_reducible refine bStep ?_ (by with_reducible assumption)) | (with_reducible refine bAlloc ?_ _) | (with_reducible refine Below.drew ?_) | (with_reducible refine bDrewN ?_ _) | (with_reducible refine Below.setCell ?_ ?_ _) | (simp; done) | (simp; omega) | omega)
end Go.Proofs.YtldejkhemkjcgaaGreatDoor
namespace Go.Proofs.YtldejkhemkjcgaaGreatDoor
open Go.RowKit
attribute [local go_sem ↓] Go.wp_at_zero Go.wp_at_succ
end Go.Proofs.YtldejkhemkjcgaaGreatDoor
namespace Go.Proofs.YtldejkhemkjcgaaGreatDoor
open Go.RowKit
def anyB (l : List (Int × Int)) (x y : Int) : Bool := (List.range l.length).any fun i => leB (tA l i) (tB l i) x y
theorem any_true {l : List (Int × Int)} {x y : Int} {k : Nat} (hk : k < l.length) (h : leB (tA l k) (tB l k) x y = true) : anyB l x y = true := by
  unfold anyB; rw [List.any_eq_true]; exact ⟨k, by simpa using hk, h⟩
theorem any_false {l : List (Int × Int)} {x y : Int} (h : ∀ j, j < l.length → leB (tA l j) (tB l j) x y = false) : anyB l x y = false := by
  unfold anyB; rw [List.any_eq_false]; intro j hj; rw [h j (by simpa using hj)]; simp
def Fk (w : World) (k : Nat) : Prop := w.heap[k]? = some (.cells #[.func (.func 32) #[] #[]] 59 (0, 0))
theorem Fk.keep {w w1 : World} {k : Nat} (h : Fk w k) (hb : Below w.heap.size w w1) : Fk w1 k := by
  unfold Fk; rw [hb.block k (lt_of_block h)]; exact h
theorem Fk.cell {w : World} {k : Nat} (h : Fk w k) : w.cell? ⟨k, 0, none⟩ = some (.func (.func 32) #[] #[]) := cell_of_one h
theorem specLess_eq {a b c d : Int} {r : Bool} (h : leB a b c d = r) (w : World) : Calls Tryz.prog 108 #[tv a b, tv c d] w fun e w' => e = .returned (.bool r) ∧ Below w.heap.size w w' := by
  rw [← h]; exact specLess_any a b c d w
set_option maxHeartbeats 2000000 in
theorem specCovers_any (v : Value) (l : List (Int × Int)) (x y : Int) (w : World) (h : Ts w v l) :
    Calls Tryz.prog 58 #[v, tv x y] w fun e w' => e = .returned (.bool (fokB l && anyB l x y)) ∧ Below w.heap.size w w' := by
  have hb0 : Below w.heap.size w (w.alloc (.cells #[.int .i64 x, .int .i64 y] 41)) := bAlloc (Below.refl _ _) _
  have bx : Bk (w.alloc (.cells #[.int .i64 x, .int .i64 y] 41)) w.heap.size #[.int .i64 x, .int .i64 y] 41 := Bk.new _ _ rfl
  go_enter Tryz.func58, Tryz.ntmps58
  go_wp2_with fail
  refine (specFrontOk_any v l _ (h.keep hb0)).mono ?_
  rintro e w1 ⟨rfl, hb1⟩
  have hbw1 := bStep hb0 hb1
  have bx1 := bx.keep hb1
  cases hf : fokB l
  · go_wp2_with fail
    go_ret
    exact ⟨ret_bool (by simp [hf]), hbw1⟩
  obtain ⟨a, cap, rfl, hc, hm, hn, hcells⟩ := h.keep hbw1
  unfold maxLen at hm
  have HC := (show Hid _ from hcells)
  have HF : Hid (fokB l = true) := hf
  clear hcells bx hb0 hb1 hf
  go_wp2_with fail
  go_loopw [5] (fun i wr => ∃ k : Nat, k ≤ l.length ∧ i = .int .i64 k ∧ (∀ j, j < k → leB (tA l j) (tB l j) x y = false) ∧ Below w1.heap.size w1 wr) (fun i _ => l.length - (intOf i).toNat)
  case atStart => exact ⟨0, by omega, rfl, fun j hj => by omega, Below.refl _ _⟩
  case round =>
    obtain ⟨k, hk, rfl, hall, hb⟩ := hrel
    have HA := (show Hid _ from hall)
    clear hall
    have hbw := bStep hbw1 hb
    by_cases hlt : k < l.length
    · obtain ⟨g, off, rfl, hg, c0, c1⟩ := HC.out k hlt
      generalize hX : tA l k = X at *
      generalize hY : tB l k = Y at *
      have EX : Hid (tA l k = X) := hX
      have EY : Hid (tB l k = Y) := hY
      clear hX hY
      have d0 : ∀ p : Bel wr, p.ww.cell? ⟨g, off + k * 2, none⟩ = some (.int .i64 X) := fun p => cell_below p.below (cell_below hb c0)
      have d1 : ∀ p : Bel wr, p.ww.cell? ⟨g, off + k * 2 + 1, none⟩ = some (.int .i64 Y) := fun p => cell_below p.below (cell_below hb c1)
      have e0 := (bx1.keep hb).bel0
      have e1 := (bx1.keep hb).bel1
      have hne := bel_some wr
      have ik : ((k : Int) < (l.length : Int)) := by omega
      clear c0 c1
      cases hp : leB X Y x y
      · have HK : Hid (leB (tA l k) (tB l k) x y = false) := by show _ = false; rw [EX.out, EY.out]; exact hp
        go_wp2_with fail
        (refine wp_region_bel (by kernel_rfl) (by kernel_rfl) ?_; (repeat (go_big_quiet_step ((first | (go_at_call 108; exact calls_bel (specLess_eq (by with_reducible assumption) _)))))); refine wpQuiet_nil ?_)
        intro w2 hw2
        replace hw2 := bel_out hw2
        have hb2 := bStep hb hw2
        go_wp2_with fail
        go_roundw
        case rel =>
          refine ⟨k + 1, by omega, by go_num, fun j hj => ?_, hb2⟩
          by_cases e : j = k
          · subst e; exact HK.out
          · exact HA.out j (by omega)
        case measure => simp [intOf]; omega
      · have HK : Hid (anyB l x y = true) := any_true hlt (by rw [EX.out, EY.out]; exact hp)
        go_wp2_with fail
        (refine wp_region_bel (by kernel_rfl) (by kernel_rfl) ?_; (repeat (go_big_quiet_step ((first | (go_at_call 108; exact calls_bel (specLess_eq (by with_reducible assumption) _)))))); refine wpQuiet_nil ?_)
        intro w2 hw2
        replace hw2 := bel_out hw2
        go_wp2_with fail
        go_ret
        exact ⟨ret_bool (by rw [HF.out, HK.out]; rfl), bStep hbw hw2⟩
    · have HK : Hid (anyB l x y = false) := any_false fun j hj => HA.out j (by omega)
      go_wp2_with fail
      go_ret
      exact ⟨ret_bool (by rw [HK.out]; simp), hbw⟩
end Go.Proofs.YtldejkhemkjcgaaGreatDoor
namespace Go.Proofs.YtldejkhemkjcgaaGreatDoor
open Go.RowKit
def cellsL (l : List (Int × Int)) : List Value := l.flatMap fun p => [.int .i64 p.1, .int .i64 p.2]
theorem cellsL_length (l : List (Int × Int)) : (cellsL l).length = l.length * 2 := by
  induction l with
  | nil => rfl
  | cons p l ih => unfold cellsL at *; simp [List.flatMap_cons, ih]; omega
theorem cellsL_snoc (l : List (Int × Int)) (a b : Int) : cellsL (l ++ [(a, b)]) = cellsL l ++ [.int .i64 a, .int .i64 b] := by
  unfold cellsL; rw [List.flatMap_append]; simp
theorem cellsL_get (l : List (Int × Int)) (i : Nat) (h : i < l.length) : (cellsL l)[i * 2]? = some (.int .i64 (tA l i)) ∧ (cellsL l)[i * 2 + 1]? = some (.int .i64 (tB l i)) := by
  induction l generalizing i with
  | nil => simp at h
  | cons p l ih =>
    cases i with
    | zero => simp [cellsL, tA, tB, List.flatMap_cons]
    | succ i =>
      have := ih i (by simpa using h)
      have e1 : (i + 1) * 2 = i * 2 + 2 := by omega
      have e2 : (i + 1) * 2 + 1 = i * 2 + 1 + 2 := by omega
      rw [e1]
      simpa [cellsL, List.flatMap_cons, tA, tB] using this
abbrev Own (w : World) (B : Nat) (v : Value) (l : List (Int × Int)) : Prop := w.ownsRow B 41 2 v l.length (cellsL l)
theorem Own.ts {w : World} {B : Nat} {v : Value} {l : List (Int × Int)} (h : Own w B v l) (hl : l.length ≤ 2097152) : Ts w v l := by
  have hh := h
  obtain ⟨_, h2⟩ := h
  rcases h2 with ⟨rfl, h0⟩ | ⟨g, cap, cur, rfl, hg, hb, hc, hm, _, _⟩
  · have : l = [] := List.eq_nil_of_length_eq_zero h0
    subst this
    exact ⟨none, 0, rfl, Nat.le_refl _, by unfold maxLen; omega, by simp, fun i hi => by simp at hi⟩
  · refine ⟨_, cap, rfl, hc, hm, hl, fun i hi => ⟨g, 0, rfl, lt_of_block hb, ?_, ?_⟩⟩
    · rw [Nat.zero_add, hh.cellAt _ (by omega)]; exact (cellsL_get l i hi).1
    · rw [Nat.zero_add, hh.cellAt _ (by omega)]; exact (cellsL_get l i hi).2
theorem own_move {w w1 : World} {B : Nat} {e : TypeId} {s : Nat} {v : Value} {n : Nat} {xs : List Value} (h : w.ownsRow B e s v n xs) (hb : ∀ k, B ≤ k → k < w.heap.size → w1.heap[k]? = w.heap[k]?) : w1.ownsRow B e s v n xs := by
  obtain ⟨h1, h2⟩ := h
  refine ⟨h1, ?_⟩
  rcases h2 with h2 | ⟨g, cap, cur, rfl, hg, hh, r⟩
  · exact .inl h2
  · exact .inr ⟨g, cap, cur, rfl, hg, by rw [hb g hg (lt_of_block hh)]; exact hh, r⟩
theorem own_keepx {g : Nat} {w w1 : World} {B : Nat} {e : TypeId} {s : Nat} {v : Value} {n : Nat} {xs : List Value} (h : w.ownsRow B e s v n xs) (hx : Bx g w w1) (hg : g < B) : w1.ownsRow B e s v n xs :=
  own_move h fun k hk hs => hx.block k hs (by omega)
theorem own_keep {w w1 : World} {B : Nat} {e : TypeId} {s : Nat} {v : Value} {n : Nat} {xs : List Value} (h : w.ownsRow B e s v n xs) (hx : Below w.heap.size w w1) : w1.ownsRow B e s v n xs :=
  own_move h fun k _ hs => hx.block k hs
theorem own_less {w : World} {B B' : Nat} {e : TypeId} {s : Nat} {v : Value} {n : Nat} {xs : List Value} (h : w.ownsRow B e s v n xs) (hB : B' ≤ B) : w.ownsRow B' e s v n xs := by
  obtain ⟨h1, h2⟩ := h
  refine ⟨h1, ?_⟩
  rcases h2 with h2 | ⟨g, cap, cur, rfl, hg, r⟩
  · exact .inl h2
  · exact .inr ⟨g, cap, cur, rfl, by omega, r⟩
theorem Bx.bel {g B : Nat} {w w' : World} (h : Bx g w w') (hB : B ≤ w.heap.size) (hg : B ≤ g) : Below B w w' := h.below (Below.refl _ _) hB hg
theorem Bx.grown {g : Nat} {a w w' : World} {row : Option Nat} (h : Bx g a w) (hg : w.grownBy w' row) (hr : ∀ k, row = some k → a.heap.size ≤ k) : Bx g a w' :=
  ⟨hg.os.trans h.os, hg.tape.trans h.tape, hg.output.trans h.output, Nat.le_trans h.size hg.size, fun k hk hkg => by
    have hs := h.size
    rw [hg.block k (by omega) (fun e => by have := hr k e.symm; omega)]; exact h.block k hk hkg⟩
theorem Rd.grown {B : Nat} {w w' : World} {g : Nat} {v : Value} {n : Nat} {p : Int} {row : Option Nat} (h : Rd B w g v n p) (hg : w.grownBy w' row) (hr : ∀ k, row = some k → g < k) : Rd B w' g v n p := by
  have hl := h.blk.lt
  have hh := h.here
  have hs := h.size
  have same : ∀ k, k ≤ g → w'.heap[k]? = w.heap[k]? := fun k hk => hg.block k (by omega) (fun e => by have := hr k e.symm; omega)
  refine ⟨by unfold Bk; rw [same g (Nat.le_refl _)]; exact h.blk, ?_, h.few, h.here, Nat.le_trans h.size hg.size⟩
  obtain ⟨a, cap, rfl, h1, h2, h3⟩ := h.bytes
  refine ⟨a, cap, rfl, h1, h2, fun i hi => ?_⟩
  obtain ⟨b, off, z, rfl, hb', hc, h4, h5⟩ := h3 i hi
  exact ⟨b, off, z, rfl, hb', by rw [World.cell?_of_block (w := w) (same b (by omega))]; exact hc, h4, h5⟩
set_option maxRecDepth 100000 in
set_option maxHeartbeats 4000000 in
theorem l71Times_any {B : Nat} {w : World} {g : Nat} {v : Value} {n : Nat} {p : Int} (h : Rd B w g v n p) (hp : 0 ≤ p) (hp' : p ≤ 800000) (most : Int) (hm0 : 0 ≤ most) (hm1 : most ≤ 100) :
    Calls Tryz.prog 154 #[.pointer (some ⟨g, 0, none⟩), .int .i64 most] w fun e w' => ∃ (o : Value) (l : List (Int × Int)), e = .returned o ∧ l.length ≤ 100 ∧ Own w' w.heap.size o l ∧ (∃ p' : Int, p ≤ p' ∧ p' ≤ p + 400 ∧ Rd B w' g v n p') ∧ Bx g w w' := by
  obtain ⟨i0, hi, hz0, hz1, hz2⟩ := info_parts infoT
  have hg := h.blk.lt
  have hh := h.here
  have hs := h.size
  have h0 := h.keepb (bAlloc (Below.refl _ _) (.cells #[] 41))
  have x0 : Bx g w (w.alloc (.cells #[] 41)) := (Bx.refl _ _).alloc _
  have o0 := own_empty w 41 2
  go_enter Tryz.func154, Tryz.ntmps154
  go_wp2_with fail
  refine (pick_any h0 hp (by omega) _ (by omega) (by omega)).mono ?_
  rintro e w1 ⟨k, rfl, hk0, hk1, hr1, hx1⟩
  have o1 := own_keepx o0 hx1 hg
  have x1 := x0.trans hx1
  clear o0 x0 h0 hx1
  go_wp2_with fail
  go_loopw [5, 6] (fun o i wr => ∃ (m : Nat) (l : List (Int × Int)) (p' : Int), (m : Int) ≤ most ∧ i = .int .i64 m ∧ (l.length : Int) + m ≤ most ∧ Own wr w.heap.size o l ∧ p ≤ p' ∧ p' ≤ p + 1 + 3 * l.length ∧ Rd B wr g v n p' ∧ Bx g w wr) (fun _ i _ => (intOf i).toNat)
  case atStart =>
    obtain ⟨m, rfl⟩ := Int.eq_ofNat_of_zero_le hk0
    exact ⟨m, [], p + 1, by omega, rfl, by simp; omega, o1, by omega, by simp, hr1, x1⟩
  case round =>
    clear o1 x1 hr1
    obtain ⟨m, l, p', hm, rfl, hlm, hown, hpp, hpq, hr, hx⟩ := hrel
    have HO := (show Hid _ from hown)
    have HP := (show Hid _ from hpq)
    clear hown
    by_cases hlt : 0 < m
    · go_wp2_with fail
      refine (l71Time_any hr (by omega) (by omega)).mono ?_
      rintro e w2 ⟨a, b, rfl, ha0, ha1, hb0, hb1, ⟨p2, hp1, hp2, hr2⟩, hx2⟩
      have hown := own_keepx HO.out hx2 hg
      have hx' := hx.trans hx2
      have hsz := hx'.size
      have hl100 : l.length ≤ 100 := by omega
      have HQ := HP
      clear HP hpq
      go_wp2_with (at_builtin; refine wpList_append_lies _ rfl _ _ 33 rfl w.heap.size 41 i0 (.agg #[.int .i64 0, .int .i64 0]) 2 16 Tryz.underlying33 hi hz0 hz1 hz2 rfl (by decide) _ _ _ rfl (hown.alloc _) ⟨w2.heap.size, 0, none⟩ 1 1 [.int .i64 a, .int .i64 b] rfl rfl (news2 _ _ _ _) (ones2 _ _) (by omega) (by unfold maxLen; omega) (by omega) (by simp; omega) (w2.heap.size + 1) (by simp) ?_; intro g3 cap w3 hown3 hgrow hat hlg)
      have hown4 : Own w3 w.heap.size (.slice (some ⟨g3, 0, none⟩) (l.length + 1) cap) (l ++ [(a, b)]) := by
        show w3.ownsRow _ _ _ _ _ _
        rw [cellsL_snoc]; simpa using hown3
      have hr3 : Rd B w3 g v n p2 := (hr2.keepb (bAlloc (Below.refl _ _) _)).grown hgrow (fun k e => by have := own_base hown k e; omega)
      have hx3 : Bx g w w3 := (hx'.alloc _).grown hgrow (own_base hown)
      exact ⟨⟨m - 1, l ++ [(a, b)], p2, by omega, by congr 1; omega, by simp; omega, hown4, by omega, by have := HQ.out; simp; omega, hr3, hx3⟩, by simp [intOf]; omega⟩
    · obtain rfl : m = 0 := by omega
      go_wp2_with fail
      go_ret
      exact ⟨_, l, rfl, by omega, HO.out, ⟨p', hpp, by omega, hr⟩, hx⟩
end Go.Proofs.YtldejkhemkjcgaaGreatDoor
namespace Go.Proofs.YtldejkhemkjcgaaGreatDoor
open Go.RowKit
def aokB (l : List (Int × Int)) : Bool := (List.range l.length).all fun i => okB (tA l i) (tB l i)
theorem aok_false {l : List (Int × Int)} {k : Nat} (hk : k < l.length) (h : okB (tA l k) (tB l k) = false) : aokB l = false := by
  unfold aokB; rw [List.all_eq_false]; exact ⟨k, by simpa using hk, by simp [h]⟩
theorem aok_true {l : List (Int × Int)} (h : ∀ j, j < l.length → okB (tA l j) (tB l j) = true) : aokB l = true := by
  unfold aokB; rw [List.all_eq_true]; intro j hj; exact h j (by simpa using hj)
def eqAt (l : List (Int × Int)) (a b : Int) (i : Nat) : Bool := decide (tA l i = a ∧ tB l i = b)
def lowAt (l : List (Int × Int)) (a b : Int) (i : Nat) : Bool := !eqAt l a b i && leB (tA l i) (tB l i) a b
def memTo (l : List (Int × Int)) (a b : Int) (m : Nat) : Bool := (List.range m).any (eqAt l a b)
def lowTo (l : List (Int × Int)) (a b : Int) (m : Nat) : Bool := (List.range m).any (lowAt l a b)
def leastB (l : List (Int × Int)) (a b : Int) : Bool := memTo l a b l.length && !lowTo l a b l.length
def gA (i : Nat) : Int := ((i / 8 : Nat) : Int)
def gB (i : Nat) : Int := 7 - ((i % 8 : Nat) : Int)
theorem gA_at {k j : Nat} (hj : j < 8) : gA (8 * k + j) = k := by unfold gA; omega
theorem gB_at {k j : Nat} (hj : j < 8) : gB (8 * k + j) = 7 - (j : Int) := by unfold gB; omega
def frTo (l : List (Int × Int)) (n : Nat) : List (Int × Int) := ((List.range n).filter fun i => leastB l (gA i) (gB i)).map fun i => (gA i, gB i)
def frontL (l : List (Int × Int)) : List (Int × Int) := if aokB l then frTo l 64 else []
theorem memTo_succ (l : List (Int × Int)) (a b : Int) (m : Nat) : memTo l a b (m + 1) = (memTo l a b m || eqAt l a b m) := by
  unfold memTo; rw [List.range_succ, List.any_append]; simp
theorem lowTo_succ (l : List (Int × Int)) (a b : Int) (m : Nat) : lowTo l a b (m + 1) = (lowTo l a b m || lowAt l a b m) := by
  unfold lowTo; rw [List.range_succ, List.any_append]; simp
theorem frTo_len (l : List (Int × Int)) (n : Nat) : (frTo l n).length ≤ n := by
  unfold frTo; rw [List.length_map]; exact Nat.le_trans (List.length_filter_le _ _) (by simp)
theorem frTo_yes (l : List (Int × Int)) {k j : Nat} (hj : j < 8) (h : leastB l k (7 - (j : Int)) = true) : frTo l (8 * k + (j + 1)) = frTo l (8 * k + j) ++ [((k : Int), 7 - (j : Int))] := by
  have h' : leastB l (gA (8 * k + j)) (gB (8 * k + j)) = true := by rw [gA_at hj, gB_at hj]; exact h
  unfold frTo
  rw [← Nat.add_assoc, List.range_succ, List.filter_append, List.map_append, List.filter_cons_of_pos (p := fun i => leastB l (gA i) (gB i)) h', List.filter_nil, List.map_cons, List.map_nil, gA_at hj, gB_at hj]
theorem frTo_no (l : List (Int × Int)) {k j : Nat} (hj : j < 8) (h : leastB l k (7 - (j : Int)) = false) : frTo l (8 * k + (j + 1)) = frTo l (8 * k + j) := by
  have h' : ¬ leastB l (gA (8 * k + j)) (gB (8 * k + j)) = true := by rw [gA_at hj, gB_at hj, h]; simp
  unfold frTo
  rw [← Nat.add_assoc, List.range_succ, List.filter_append, List.map_append, List.filter_cons_of_neg (p := fun i => leastB l (gA i) (gB i)) h', List.filter_nil, List.map_nil, List.append_nil]
set_option maxHeartbeats 1000000 in
theorem l1Ok_any (v : Value) (l : List (Int × Int)) (w : World) (h : Ts w v l) :
    Calls Tryz.prog 181 #[v] w fun e w' => e = .returned (.bool (aokB l)) ∧ Below w.heap.size w w' := by
  obtain ⟨a, cap, rfl, hc, hm, hn, hcells⟩ := h
  unfold maxLen at hm
  have HC := (show Hid _ from hcells)
  clear hcells
  go_enter Tryz.func181, Tryz.ntmps181
  go_wp2_with fail
  go_loopw [3] (fun i wr => ∃ k : Nat, k ≤ l.length ∧ i = .int .i64 k ∧ (∀ j, j < k → okB (tA l j) (tB l j) = true) ∧ Below w.heap.size w wr) (fun i _ => l.length - (intOf i).toNat)
  case atStart => exact ⟨0, by omega, rfl, fun j hj => by omega, Below.refl _ _⟩
  case round =>
    obtain ⟨k, hk, rfl, hall, hb⟩ := hrel
    have HA := (show Hid _ from hall)
    clear hall
    by_cases hlt : k < l.length
    · obtain ⟨g, off, rfl, hg, c0, c1⟩ := HC.out k hlt
      have d0 := cell_below hb c0
      have d1 := cell_below hb c1
      clear c0 c1
      generalize hX : tA l k = X at *
      generalize hY : tB l k = Y at *
      have EX : Hid (tA l k = X) := hX
      have EY : Hid (tB l k = Y) := hY
      clear hX hY
      cases ho : okB X Y
      · have HK : Hid (aokB l = false) := aok_false hlt (by rw [EX.out, EY.out]; exact ho)
        go_wp2_with fail
        refine (specOk_eq ho _).mono ?_
        rintro e w1 ⟨rfl, hb1⟩
        go_wp2_with fail
        go_ret
        exact ⟨ret_bool HK.out.symm, bStep hb hb1⟩
      · have HK : Hid (okB (tA l k) (tB l k) = true) := by show _ = true; rw [EX.out, EY.out]; exact ho
        go_wp2_with fail
        refine (specOk_eq ho _).mono ?_
        rintro e w1 ⟨rfl, hb1⟩
        have hbw := bStep hb hb1
        go_wp2_with fail
        go_roundw
        case rel =>
          refine ⟨k + 1, by omega, by go_num, fun j hj => ?_, hbw⟩
          by_cases e : j = k
          · subst e; exact HK.out
          · exact HA.out j (by omega)
        case measure => simp [intOf]; omega
    · have HK : Hid (aokB l = true) := aok_true fun j hj => HA.out j (by omega)
      go_wp2_with fail
      go_ret
      exact ⟨ret_bool HK.out.symm, hb⟩
end Go.Proofs.YtldejkhemkjcgaaGreatDoor
namespace Go.Proofs.YtldejkhemkjcgaaGreatDoor
open Go.RowKit
set_option maxRecDepth 100000 in
set_option maxHeartbeats 16000000 in
theorem specFrontOf_any (v : Value) (l : List (Int × Int)) (w : World) (h : Ts w v l) :
    Calls Tryz.prog 153 #[v] w fun e w' => ∃ o : Value, e = .returned o ∧ Own w' w.heap.size o (frontL l) ∧ Below w.heap.size w w' := by
  obtain ⟨i0, hi, hz0, hz1, hz2⟩ := info_parts infoT
  have hb0 : Below w.heap.size w (w.alloc (.cells #[] 41)) := bAlloc (Below.refl _ _) _
  have o0 := own_empty w 41 2
  go_enter Tryz.func153, Tryz.ntmps153
  go_wp2_with fail
  refine (l1Ok_any v l _ (h.keep hb0)).mono ?_
  rintro e w1 ⟨rfl, hb1⟩
  have hbw1 := bStep hb0 hb1
  have o1 := own_keep o0 hb1
  clear o0 hb0 hb1
  cases hok : aokB l
  · have HK : Hid (frontL l = []) := by show _ = []; simp [frontL, hok]
    go_wp2_with fail
    go_ret
    refine ⟨_, rfl, ?_, hbw1⟩
    rw [HK.out]; exact o1
  have HK : Hid (frontL l = frTo l 64) := by show _ = _; simp [frontL, hok]
  clear hok
  obtain ⟨a, cap, rfl, hc, hm, hn, hcells⟩ := h
  unfold maxLen at hm
  have HC := (show Hid _ from hcells)
  clear hcells
  generalize hN : l.length = n at *
  have HN : Hid (l.length = n) := hN
  clear hN
  go_wp2_with fail
  go_loopw [3, 4] (fun o i wr => ∃ k : Nat, k ≤ 8 ∧ i = .int .i64 k ∧ Own wr w.heap.size o (frTo l (8 * k)) ∧ Below w.heap.size w wr) (fun _ i _ => 8 - (intOf i).toNat)
  case atStart => exact ⟨0, by omega, rfl, o1, hbw1⟩
  case round =>
    clear o1 hbw1
    obtain ⟨k, hk, rfl, hown, hb⟩ := hrel
    have HO := (show Hid _ from hown)
    clear hown
    by_cases hlt : k < 8
    · have hk7 : decide ((k : Int) ≤ 7) = true := by simp; omega
      go_wp2_with fail
      go_loopw [3, 5] (fun o i wq => ∃ j : Nat, j ≤ 8 ∧ i = .int .i64 (7 - (j : Int)) ∧ Own wq w.heap.size o (frTo l (8 * k + j)) ∧ Below w.heap.size w wq) (fun _ i _ => (intOf i + 1).toNat)
      case atStart => exact ⟨0, by omega, rfl, HO.out, hb⟩
      case round =>
        clear HO hb
        obtain ⟨j, hj, rfl, hown, hb⟩ := hrel
        have HO := (show Hid _ from hown)
        clear hown
        by_cases hjt : j < 8
        · have hj7 : decide ((j : Int) ≤ 7) = true := by simp; omega
          have hj8 : decide (0 ≤ 7 - (j : Int)) = true := by simp; omega
          have bt0 := Bk.new (w := wr) #[.int .i64 (k : Int), .int .i64 (7 - (j : Int))] 41 rfl
          have hbt := bAlloc hb (.cells #[.int .i64 (k : Int), .int .i64 (7 - (j : Int))] 41)
          have OT := (show Hid _ from own_keep HO.out (bAlloc (Below.refl _ wr) (.cells #[.int .i64 (k : Int), .int .i64 (7 - (j : Int))] 41)))
          clear HO hb
          go_wp2_with fail
          generalize (wr.alloc (.cells #[.int .i64 (k : Int), .int .i64 (7 - (j : Int))] 41)) = wt at *
          generalize wr.heap.size = tb at *
          go_loopw [7, 8] (fun lb i wq => ∃ m : Nat, m ≤ n ∧ i = .int .i64 m ∧ lb = .bool (memTo l k (7 - (j : Int)) m) ∧ Below wt.heap.size wt wq) (fun _ i _ => n - (intOf i).toNat)
          case atStart => exact ⟨0, by omega, rfl, rfl, Below.refl _ _⟩
          case round =>
            obtain ⟨m, hmn, rfl, rfl, hb⟩ := hrel
            by_cases hmt : m < n
            · obtain ⟨g, off, rfl, hg, c0, c1⟩ := HC.out m hmt
              have d0 := cell_below hb (cell_below hbt c0)
              have d1 := cell_below hb (cell_below hbt c1)
              clear c0 c1
              obtain ⟨t0, t1, _, _⟩ := (bt0.keep hb).two
              have HS := (show Hid _ from memTo_succ l k (7 - (j : Int)) m)
              have HE := (show Hid (eqAt l k (7 - (j : Int)) m = decide (tA l m = k ∧ tB l m = 7 - (j : Int))) from rfl)
              generalize hX : tA l m = X at *
              generalize hY : tB l m = Y at *
              clear hX hY
              have im : ((m : Int) < (n : Int)) := by omega
              by_cases hXk : X = k
              · by_cases hYj : Y = 7 - (j : Int)
                · subst hXk hYj
                  go_wp2_with fail
                  go_quiet (fail)
                  go_wp2_with fail
                  go_roundw
                  case rel => exact ⟨m + 1, by omega, by go_num, by rw [HS.out, HE.out]; simp, bDrewN hb _⟩
                  case measure => simp [intOf]; omega
                · subst hXk
                  have ny : (Y == 7 - (j : Int)) = false := beq_eq_false_iff_ne.2 hYj
                  go_wp2_with fail
                  go_quiet (fail)
                  go_wp2_with fail
                  go_roundw
                  case rel => exact ⟨m + 1, by omega, by go_num, by rw [HS.out, HE.out]; simp [hYj], bDrewN hb _⟩
                  case measure => simp [intOf]; omega
              · have nx : (X == (k : Int)) = false := beq_eq_false_iff_ne.2 hXk
                go_wp2_with fail
                go_quiet (fail)
                go_wp2_with fail
                go_roundw
                case rel => exact ⟨m + 1, by omega, by go_num, by rw [HS.out, HE.out]; simp [hXk], bDrewN hb _⟩
                case measure => simp [intOf]; omega
            · obtain rfl : m = n := by omega
              obtain ⟨w5, hw5⟩ : ∃ w5, w5 = wr := ⟨_, rfl⟩
              subst hw5
              have hb5 := bStep hbt hb
              have bt5 := bt0.keep hb
              have O5 := (show Hid _ from own_keep OT.out hb)
              have HL : Hid (leastB l k (7 - (j : Int)) = (memTo l k (7 - (j : Int)) m && !lowTo l k (7 - (j : Int)) m)) := by show _ = _; unfold leastB; rw [HN.out]
              clear hb hbt bt0 OT
              generalize hme : memTo l k (7 - (j : Int)) m = me at *
              clear hme
              go_wp2_with fail
              go_loopw [7, 9] (fun lb i wq => ∃ q : Nat, q ≤ m ∧ i = .int .i64 q ∧ lb = .bool (me && !lowTo l k (7 - (j : Int)) q) ∧ Below w5.heap.size w5 wq) (fun _ i _ => m - (intOf i).toNat)
              case atStart => exact ⟨0, by omega, rfl, by simp [lowTo], Below.refl _ _⟩
              case round =>
                obtain ⟨q, hqm, rfl, rfl, hb⟩ := hrel
                by_cases hqt : q < m
                · obtain ⟨g, off, rfl, hg, c0, c1⟩ := HC.out q hqt
                  have HS := (show Hid _ from lowTo_succ l k (7 - (j : Int)) q)
                  have HE := (show Hid (lowAt l k (7 - (j : Int)) q = (!decide (tA l q = k ∧ tB l q = 7 - (j : Int)) && leB (tA l q) (tB l q) k (7 - (j : Int)))) from rfl)
                  generalize hX : tA l q = X at *
                  generalize hY : tB l q = Y at *
                  clear hX hY
                  generalize hlo : lowTo l k (7 - (j : Int)) q = lo at *
                  clear hlo
                  have d0 : ∀ p : Bel wr, p.ww.cell? ⟨g, off + q * 2, none⟩ = some (.int .i64 X) := fun p => cell_below p.below (cell_below hb (cell_below hb5 c0))
                  have d1 : ∀ p : Bel wr, p.ww.cell? ⟨g, off + q * 2 + 1, none⟩ = some (.int .i64 Y) := fun p => cell_below p.below (cell_below hb (cell_below hb5 c1))
                  have t0 := (bt5.keep hb).bel0
                  have t1 := (bt5.keep hb).bel1
                  have hne := bel_some wr
                  clear c0 c1
                  have iq : ((q : Int) < (m : Int)) := by omega
                  by_cases heq : X = k ∧ Y = 7 - (j : Int)
                  · obtain ⟨rfl, rfl⟩ := heq
                    go_wp2_with fail
                    (refine wp_region_bel (by kernel_rfl) (by kernel_rfl) ?_; (repeat (go_big_quiet_step ((first | (go_at_call 108; exact calls_bel (specLess_eq (by with_reducible assumption) _)))))); refine wpQuiet_nil ?_)
                    intro w6 hw6
                    replace hw6 := bel_out hw6
                    have hb6 := bStep hb hw6
                    go_wp2_with fail
                    go_roundw
                    case rel => exact ⟨q + 1, by omega, by go_num, by rw [HS.out, HE.out]; simp, hb6⟩
                    case measure => simp [intOf]; omega
                  · have hor : (X == (k : Int)) = false ∨ (X = k ∧ (Y == 7 - (j : Int)) = false) := by
                      by_cases hx : X = k
                      · exact .inr ⟨hx, beq_eq_false_iff_ne.2 fun h => heq ⟨hx, h⟩⟩
                      · exact .inl (beq_eq_false_iff_ne.2 hx)
                    have hde : decide (X = k ∧ Y = 7 - (j : Int)) = false := by simpa using heq
                    cases hp : leB X Y k (7 - (j : Int))
                    · have hfi : Hid ((lo || (!decide (X = k ∧ Y = 7 - (j : Int)) && leB X Y k (7 - (j : Int)))) = lo) := by show _ = lo; rw [hde, hp]; simp
                      clear heq hde
                      rcases hor with nx | ⟨rfl, ny⟩
                      all_goals go_wp2_with fail
                      all_goals (refine wp_region_bel (by kernel_rfl) (by kernel_rfl) ?_; (repeat (go_big_quiet_step ((first | (go_at_call 108; exact calls_bel (specLess_eq (by with_reducible assumption) _)))))); refine wpQuiet_nil ?_)
                      all_goals intro w6 hw6
                      all_goals replace hw6 := bel_out hw6
                      all_goals have hb6 := bStep hb hw6
                      all_goals go_wp2_with fail
                      all_goals go_roundw
                      case rel => exact ⟨q + 1, by omega, by go_num, by rw [HS.out, HE.out, hfi.out], hb6⟩
                      case measure => simp [intOf]; omega
                      case rel => exact ⟨q + 1, by omega, by go_num, by rw [HS.out, HE.out, hfi.out], hb6⟩
                      case measure => simp [intOf]; omega
                    · have hfi : Hid ((lo || (!decide (X = k ∧ Y = 7 - (j : Int)) && leB X Y k (7 - (j : Int)))) = true) := by show _ = true; rw [hde, hp]; simp
                      clear heq hde
                      rcases hor with nx | ⟨rfl, ny⟩
                      all_goals go_wp2_with fail
                      all_goals (refine wp_region_bel (by kernel_rfl) (by kernel_rfl) ?_; (repeat (go_big_quiet_step ((first | (go_at_call 108; exact calls_bel (specLess_eq (by with_reducible assumption) _)))))); refine wpQuiet_nil ?_)
                      all_goals intro w6 hw6
                      all_goals replace hw6 := bel_out hw6
                      all_goals have hb6 := bStep hb hw6
                      all_goals go_wp2_with fail
                      all_goals go_roundw
                      case rel => exact ⟨q + 1, by omega, by go_num, by rw [HS.out, HE.out, hfi.out]; simp, hb6⟩
                      case measure => simp [intOf]; omega
                      case rel => exact ⟨q + 1, by omega, by go_num, by rw [HS.out, HE.out, hfi.out]; simp, hb6⟩
                      case measure => simp [intOf]; omega
                · obtain rfl : q = m := by omega
                  have OW := own_keep O5.out hb
                  have hbw := bStep hb5 hb
                  obtain ⟨t0, t1, _, _⟩ := (bt5.keep hb).two
                  have hlen := frTo_len l (8 * k + j)
                  have HL2 := HL
                  cases hle : (me && !lowTo l k (7 - (j : Int)) q)
                  · have HZ : Hid (frTo l (8 * k + (j + 1)) = frTo l (8 * k + j)) := frTo_no l hjt (by rw [HL2.out]; exact hle)
                    have HOW := (show Hid _ from OW)
                    clear OW
                    go_wp2_with fail
                    go_roundw
                    case rel =>
                      refine ⟨j + 1, by omega, by go_num, ?_, hbw⟩
                      rw [HZ.out]; exact HOW.out
                    case measure => simp [intOf]; omega
                  · have HZ : Hid (frTo l (8 * k + (j + 1)) = frTo l (8 * k + j) ++ [((k : Int), 7 - (j : Int))]) := frTo_yes l hjt (by rw [HL2.out]; exact hle)
                    have hsz := hbw.size
                    go_wp2_with (at_builtin; refine wpList_append_lies _ rfl _ _ 33 rfl w.heap.size 41 i0 (.agg #[.int .i64 0, .int .i64 0]) 2 16 Tryz.underlying33 hi hz0 hz1 hz2 rfl (by decide) _ _ _ rfl (OW.alloc _) ⟨wr.heap.size, 0, none⟩ 1 1 [.int .i64 (k : Int), .int .i64 (7 - (j : Int))] rfl rfl (news2 _ _ _ _) (ones2 _ _) (by omega) (by unfold maxLen; omega) (by omega) (by simp; omega) (wr.heap.size + 1) (by simp) ?_; intro g3 cap3 w3 hown3 hgrow hat hlg)
                    have hb3 : Below w.heap.size w w3 := (bAlloc hbw _).grown hgrow (by simp; omega) (own_base OW)
                    go_roundw
                    case rel =>
                      refine ⟨j + 1, by omega, by go_num, ?_, hb3⟩
                      rw [HZ.out]
                      show w3.ownsRow _ _ _ _ _ _
                      rw [cellsL_snoc]; simpa using hown3
                    case measure => simp [intOf]; omega
        · obtain rfl : j = 8 := by omega
          go_wp2_with fail
          go_roundw
          case rel => exact ⟨k + 1, by omega, by go_num, HO.out, hb⟩
          case measure => simp [intOf]; omega
    · obtain rfl : k = 8 := by omega
      go_wp2_with fail
      go_ret
      refine ⟨_, rfl, ?_, hb⟩
      rw [HK.out]; exact HO.out
end Go.Proofs.YtldejkhemkjcgaaGreatDoor
