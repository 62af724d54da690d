/- What FrontMove answers: a contract of the program's. -/
import Derived.Test.YtlddhfimiignaaaGreatGa5
import Derived.Test.YtlddhfimiignaaaGreatGa3
import Derived.WalkSpells
import Derived.Deep.RegionWith
/-! What FrontMove answers: a contract of the program's. -/
namespace Go.Proofs.YtlddhfimiignaaaGreat
open Go.RowKit
attribute [local go_sem ↓] Go.wp_at_zero Go.wp_at_succ

/-- The time x y moved by the first k + 1 times of l. -/
def mvP (l : List (Int × Int)) (x y : Int) : Nat → Int × Int
  | 0 => (jnA x y (tA l 0) (tB l 0), jnB x y (tA l 0) (tB l 0))
  | k + 1 => (mtA (mvP l x y k).1 (mvP l x y k).2 (jnA x y (tA l (k + 1)) (tB l (k + 1))) (jnB x y (tA l (k + 1)) (tB l (k + 1))), mtB (mvP l x y k).1 (mvP l x y k).2 (jnA x y (tA l (k + 1)) (tB l (k + 1))) (jnB x y (tA l (k + 1)) (tB l (k + 1))))
def moveV (l : List (Int × Int)) (x y : Int) : Int × Int := if fokB l && okB x y then (if l.length = 0 then (x, y) else mvP l x y (l.length - 1)) else (0, 0)

theorem keep_k {C : Prop} {w w1 : World} {k : Nat} {x y : Value} {t : TypeId} (hb : Below w.heap.size w w1) (h : Bk w k #[x, y] t)
    (c : Bk w1 k #[x, y] t → w1.cell? ⟨k, 0, none⟩ = some x → w1.cell? ⟨k, 1, none⟩ = some y → w1.frozen? ⟨k, 0, none⟩ = false → w1.frozen? ⟨k, 1, none⟩ = false → C) : C :=
  have a := h.keep hb
  c a a.two.1 a.two.2.1 a.two.2.2.1 a.two.2.2.2
theorem fin2 {K : World → Prop} {B R1 : Nat} {w0 w : World} {x0 y0 a b : Value} {t : TypeId} (h1 : Bk w R1 #[x0, y0] t) (hb : Below B w0 w) (hB1 : B ≤ R1)
    (k : ∀ W, Bk W R1 #[a, b] t → Below B w0 W → K W) : K ((w.setCell ⟨R1, 0, none⟩ a).setCell ⟨R1, 1, none⟩ b) :=
  k _ (h1.set01 a b) ((hb.setCell hB1 a).setCell hB1 b)
theorem tail_times (gf off n cap : Nat) (h1 : 1 ≤ n) (hc : n ≤ cap) (hm : cap ≤ maxLen) : ∃ a1 c1 : Nat, (1 < n → a1 = off + 2) ∧ ∀ u : World, (Instr.slice 29 (.slice (some ⟨gf, off, none⟩) n cap) (some (.int .i64 1)) Option.none Option.none).run Tryz.prog u = .ok (.slice (some ⟨gf, a1, none⟩) (n - 1) c1) u := by
  have ht : Tryz.prog.underlying 29 = some (.slice (Tryz.prog.elem 29)) := by kernel_rfl
  have hs : ∀ u : World, (sizeOf (Tryz.prog.elem 29)).run Tryz.prog u = .ok 2 u := fun u => by kernel_rfl
  by_cases h : cap = 1
  · subst h
    refine ⟨off, 0, fun h => by omega, fun u => ?_⟩
    obtain rfl : n = 1 := by omega
    rw [run_slice_l (P := Tryz.prog) u 29 _ _ _ ht .i64 1 (by omega) (by omega), hs u]
    simp [Result.andThen, sliced]
  · refine ⟨off + 2, cap - 1, fun _ => rfl, fun u => ?_⟩
    rw [run_slice_l (P := Tryz.prog) u 29 _ _ _ ht .i64 1 (by omega) (by omega), hs u]
    simp [Result.andThen, sliced, Addr.add]; exact h

set_option maxHeartbeats 8000000 in
theorem implFrontMove_any (v : Value) (l : List (Int × Int)) (x y : Int) (w : World) (h : Ts w v l) :
    Calls Tryz.prog 69 #[v, tv x y] w fun e w' => e = .returned (tv (moveV l x y).1 (moveV l x y).2) ∧ Below w.heap.size w w' := by
  have HV : Hid (moveV l x y = if fokB l && okB x y then (if l.length = 0 then (x, y) else mvP l x y (l.length - 1)) else (0, 0)) := rfl
  have bT : Bk ((w.alloc (.cells #[.int .i64 x, .int .i64 y] 35)).alloc (.cells #[.int .i64 0, .int .i64 0] 35)) w.heap.size #[.int .i64 x, .int .i64 y] 35 := (Bk.new _ _ rfl).alloc _
  have bR : Bk ((w.alloc (.cells #[.int .i64 x, .int .i64 y] 35)).alloc (.cells #[.int .i64 0, .int .i64 0] 35)) (w.heap.size + 1) #[.int .i64 0, .int .i64 0] 35 := Bk.new _ _ (by simp)
  have hb0 : Below w.heap.size w ((w.alloc (.cells #[.int .i64 x, .int .i64 y] 35)).alloc (.cells #[.int .i64 0, .int .i64 0] 35)) := bAlloc (bAlloc (Below.refl _ _) _) _
  have t0 := h.keep hb0
  go_enter Tryz.func69, Tryz.ntmps69
  go_wp2_with fail
  generalize ((w.alloc (.cells #[.int .i64 x, .int .i64 y] 35)).alloc (.cells #[.int .i64 0, .int .i64 0] 35)) = W at *
  refine (implFrontOk_any v l _ t0).mono ?_
  rintro e w1 ⟨rfl, hb1⟩
  have bT1 := bT.keep hb1
  have bR1 := bR.keep hb1
  have hbw1 := bStep hb0 hb1
  clear t0 bT bR hb0 hb1
  obtain ⟨p0, p1, _, _⟩ := bT1.two
  obtain ⟨r0, r1, fr0, fr1⟩ := bR1.two
  cases hf : fokB l
  · go_wp2_with fail
    refine bodyPost_ret (by simp [results, Tryz.results69, go_sem, set1a bR1, set2b bR1]; try rfl) rfl ?_
    refine ⟨ret_tv (by rw [HV.out]; simp [hf]) (by rw [HV.out]; simp [hf]), ?_⟩
    repeat' (first | (with_reducible exact Below.refl _ _) | (with_reducible assumption) | (with_reducible refine bStep ?_ (by with_reducible assumption)) | (with_reducible refine bAlloc ?_ _) | (with_reducible refine Below.drew ?_) | (with_reducible refine bDrewN ?_ _) | (with_reducible refine Below.setCell ?_ ?_ _) | (simp; done) | (simp; omega) | omega)
  go_wp2_with fail
  refine (implOk_any _ _ _).mono ?_
  rintro e w2 ⟨rfl, hb2⟩
  have bT2 := bT1.keep hb2
  have bR2 := bR1.keep hb2
  have hbw2 := bStep hbw1 hb2
  clear bT1 bR1 hbw1 hb2 p0 p1 r0 r1 fr0 fr1
  obtain ⟨p0, p1, _, _⟩ := bT2.two
  obtain ⟨r0, r1, fr0, fr1⟩ := bR2.two
  cases ho : okB x y
  · go_wp2_with fail
    refine bodyPost_ret (by simp [results, Tryz.results69, go_sem, set1a bR2, set2b bR2]; try rfl) rfl ?_
    refine ⟨ret_tv (by rw [HV.out]; simp [ho]) (by rw [HV.out]; simp [ho]), ?_⟩
    repeat' (first | (with_reducible exact Below.refl _ _) | (with_reducible assumption) | (with_reducible refine bStep ?_ (by with_reducible assumption)) | (with_reducible refine bAlloc ?_ _) | (with_reducible refine Below.drew ?_) | (with_reducible refine bDrewN ?_ _) | (with_reducible refine Below.setCell ?_ ?_ _) | (simp; done) | (simp; omega) | omega)
  have tf := h.keep hbw2
  obtain ⟨a, cap, rfl, hc, hm, hn, hcells⟩ := tf
  have hm' := hm
  unfold maxLen at hm
  generalize hN : l.length = n at *
  have HN : Hid (l.length = n) := hN
  clear hN
  by_cases hl : n = 0
  · subst hl
    go_wp2_with fail
    refine bodyPost_ret (by simp [results, Tryz.results69, go_sem, set1a bR2, set2b bR2]; try rfl) rfl ?_
    refine ⟨ret_tv (by rw [HV.out, if_pos (by simp [hf, ho])]; simp) (by rw [HV.out, if_pos (by simp [hf, ho])]; simp), ?_⟩
    repeat' (first | (with_reducible exact Below.refl _ _) | (with_reducible assumption) | (with_reducible refine bStep ?_ (by with_reducible assumption)) | (with_reducible refine bAlloc ?_ _) | (with_reducible refine Below.drew ?_) | (with_reducible refine bDrewN ?_ _) | (with_reducible refine Below.setCell ?_ ?_ _) | (simp; done) | (simp; omega) | omega)
  have hl' : ((n : Int) == 0) = false := beq_eq_false_iff_ne.2 (by omega)
  obtain ⟨gf, off, rfl, hg, c0, c1⟩ := hcells 0 (by omega)
  simp only [Nat.zero_mul, Nat.add_zero] at c0 c1
  have HC := (show Hid _ from hcells)
  clear hcells
  have ipn : 0 < n := by omega
  have ipos : (0 : Int) < (n : Int) := by omega
  have ipos1 : (1 : Int) ≤ (n : Int) := by omega
  generalize hX : tA l 0 = X at *
  generalize hY : tB l 0 = Y at *
  have E0 : Hid (mvP l x y 0 = (jnA x y X Y, jnB x y X Y)) := by show _ = _; rw [← hX, ← hY]; rfl
  clear hX hY
  have lt := bT2.lt
  go_wp2_with fail
  go_cut [5] (fun p wc => ∃ g : Nat, p = .pointer (some ⟨g, 0, none⟩) ∧ w2.heap.size ≤ g ∧ Bk wc g #[.int .i64 (jnA x y X Y), .int .i64 (jnB x y X Y)] 35 ∧ Below w2.heap.size w2 wc)
  case first =>
    go_region_held3 (fun w' => w'.cell? ⟨w.heap.size, 0, none⟩ = some (.int .i64 x) ∧ w'.cell? ⟨w.heap.size, 1, none⟩ = some (.int .i64 y) ∧ w'.cell? ⟨gf, off, none⟩ = some (.int .i64 X) ∧ w'.cell? ⟨gf, off + 1, none⟩ = some (.int .i64 Y)) (refine ⟨?_, ?_, ?_, ?_⟩ <;> repeat' (first | with_reducible assumption | with_reducible refine cell_drew ?_ | with_reducible refine cell_alloc ?_ | with_reducible refine cell_below (by with_reducible assumption) ?_ | with_reducible refine cell_apart ?_ ?_ | omega | (simp; done) | (simp; omega))) (first | (go_at_call 64; refine (implJoin_any _ _ _ _ _).mono ?_; rintro e w' ⟨rfl, hb⟩; have hz := hb.size; (try simp only [World.size_drew] at hz); (try simp only [World.size_alloc] at hz); (first | (with_reducible refine newfd_k hb ?_; intro _ _ _ _ _) | (with_reducible refine newf_k hb ?_; intro _ _ _ _ _) | (with_reducible refine oldf_k hb (by with_reducible assumption) (by with_reducible assumption) (by with_reducible assumption) (by with_reducible assumption) (by with_reducible assumption) ?_; intro _ _ _ _ _) | skip)))
    all_goals
      go_wp2_with fail
      go_meet
      case rel =>
        refine ⟨_, rfl, ?_, ?_, ?_⟩
        · first | omega | (simp; done) | (simp; omega)
        · repeat' (first | (with_reducible refine Bk.drew ?_) | (with_reducible refine Bk.drewN ?_ _) | (with_reducible refine Bk.new _ _ ?_; (first | with_reducible rfl | omega | (simp; done) | (simp; omega))) | (with_reducible refine Bk.alloc ?_ _) | (with_reducible refine Bk2.set01 ?_ _ _) | (with_reducible refine Bk2.drew ?_) | (with_reducible refine Bk2.new _ _ _ ?_; (first | with_reducible rfl | omega | (simp; done) | (simp; omega))) | (with_reducible refine Bk2.alloc ?_ _) | (with_reducible refine Bk2.keep ?_ (by with_reducible assumption)) | (with_reducible refine Bk.keep ?_ (by with_reducible assumption)))
        · repeat' (first | (with_reducible exact Below.refl _ _) | (with_reducible assumption) | (with_reducible refine bStep ?_ (by with_reducible assumption)) | (with_reducible refine bAlloc ?_ _) | (with_reducible refine Below.drew ?_) | (with_reducible refine bDrewN ?_ _) | (with_reducible refine Below.setCell ?_ ?_ _) | (simp; done) | (simp; omega) | omega)
  case rest =>
    obtain ⟨g, rfl, hgg, bg, hbc⟩ := hcut
    obtain ⟨a1, k1, ha1, hsl⟩ := tail_times gf off n cap (by omega) hc hm'
    have HA1 := (show Hid _ from ha1)
    clear ha1
    go_wp2_with fail
    go_loopw [29] (fun i wr => ∃ k : Nat, k ≤ n - 1 ∧ i = .int .i64 k ∧ Bk wr g #[.int .i64 (mvP l x y k).1, .int .i64 (mvP l x y k).2] 35 ∧ Below w2.heap.size w2 wr) (fun i _ => n - 1 - (intOf i).toNat)
    case atStart =>
      refine ⟨0, by omega, rfl, ?_, hbc⟩
      rw [E0.out]; exact bg
    case round =>
      clear bg hbc
      obtain ⟨k, hk, rfl, bg, hb⟩ := hrel
      by_cases hlt : k < n - 1
      · obtain ⟨gf', off', he, hg', d0, d1⟩ := HC.out (k + 1) (by omega)
        simp at he
        obtain ⟨rfl, rfl⟩ := he
        obtain rfl := HA1.out (by omega)
        have o1 : off + (k + 1) * 2 = off + 2 + k * 2 := by omega
        rw [o1] at d0 d1
        generalize hX' : tA l (k + 1) = X' at *
        generalize hY' : tB l (k + 1) = Y' at *
        generalize hM : (mvP l x y k).1 = M at *
        generalize hM' : (mvP l x y k).2 = M' at *
        have ES : Hid (mvP l x y (k + 1) = (mtA M M' (jnA x y X' Y') (jnB x y X' Y'), mtB M M' (jnA x y X' Y') (jnB x y X' Y'))) := by
          show _ = _; rw [← hX', ← hY', ← hM, ← hM']; rfl
        clear hX' hY' hM hM' o1
        have bT3 := bT2.keep hb
        have x0 := cell_below hb d0
        have x1 := cell_below hb d1
        clear d0 d1
        have bS4 := Bk.new (w := wr) #[.int .i64 X', .int .i64 Y'] 35 rfl
        have bT4 := bT3.alloc (.cells #[.int .i64 X', .int .i64 Y'] 35)
        have bG4 := bg.alloc (.cells #[.int .i64 X', .int .i64 Y'] 35)
        have hb4 := bAlloc hb (.cells #[.int .i64 X', .int .i64 Y'] 35)
        go_wp2_with fail
        clear x0 x1
        generalize (wr.alloc (.cells #[.int .i64 X', .int .i64 Y'] 35)) = w4 at *
        have bG5 : Bk w4.drew g #[.int .i64 M, .int .i64 M'] 35 := bG4.drew
        have hb5 : Hid (Below w2.heap.size w2 w4.drew) := hb4.drew
        obtain ⟨s0, s1, _, _⟩ := bS4.two
        obtain ⟨p0, p1, _, _⟩ := bT4.two
        obtain ⟨m0, m1, _, _⟩ := bG4.two
        have ng1 : wr.heap.size ≠ g := by have := bg.lt; omega
        have ng2 : w.heap.size ≠ g := by omega
        go_region_with (first | (go_at_call 64; refine (implJoin_any _ _ _ _ _).mono ?_; rintro e w' ⟨rfl, hb⟩; refine keep_k (k := g) hb (by with_reducible assumption) ?_; intro _ _ _ _ _; have hbn : Hid (Below w2.heap.size w2 w') := bStep (Hid.out (by with_reducible assumption)) hb) | (go_at_call 105; refine (implMeet_any _ _ _ _ _).mono ?_; rintro e w' ⟨rfl, hb⟩; refine keep_k (k := g) hb (by with_reducible assumption) ?_; intro _ _ _ _ _; have hbn : Hid (Below w2.heap.size w2 w') := bStep (Hid.out (by with_reducible assumption)) hb))
        all_goals
          refine fin2 (by with_reducible assumption) hbn.out hgg ?_
          intro W5 bG6 hb6
          go_wp2_with fail
          go_roundw
          case rel =>
            refine ⟨k + 1, by omega, by go_num, ?_, hb6⟩
            rw [ES.out]; exact bG6
          case measure => simp [intOf]; omega
      · obtain rfl : k = n - 1 := by omega
        have bR3 := bR2.keep hb
        have hbw3 := bStep hbw2 hb
        obtain ⟨m0, m1, _, _⟩ := bg.two
        obtain ⟨r0, r1, fr0, fr1⟩ := bR3.two
        go_wp2_with fail
        refine bodyPost_ret (by simp [results, Tryz.results69, go_sem, set1a bR3, set2b bR3]; try rfl) rfl ?_
        refine ⟨ret_tv (by rw [HV.out, if_pos (by simp [hf, ho]), if_neg hl]) (by rw [HV.out, if_pos (by simp [hf, ho]), if_neg hl]), ?_⟩
        repeat' (first | (with_reducible exact Below.refl _ _) | (with_reducible assumption) | (with_reducible refine bStep ?_ (by with_reducible assumption)) | (with_reducible refine bAlloc ?_ _) | (with_reducible refine Below.drew ?_) | (with_reducible refine bDrewN ?_ _) | (with_reducible refine Below.setCell ?_ ?_ _) | (simp; done) | (simp; omega) | omega)
end Go.Proofs.YtlddhfimiignaaaGreat

/-! What FrontMove of the model answers: a contract. -/
namespace Go.Proofs.YtlddhfimiignaaaGreat
open Go.RowKit
attribute [local go_sem ↓] Go.wp_at_zero Go.wp_at_succ

theorem jnA_comm (a b c d : Int) : jnA c d a b = jnA a b c d := by unfold jnA; rw [Bool.and_comm, Int.max_comm]
theorem jnB_comm (a b c d : Int) : jnB c d a b = jnB a b c d := by unfold jnB; rw [Bool.and_comm, Int.max_comm]
theorem specJoin_turn (a b c d : Int) (w : World) :
    Calls Tryz.prog 104 #[tv c d, tv a b] w fun e w' => e = .returned (tv (jnA a b c d) (jnB a b c d)) ∧ Below w.heap.size w w' := by
  have := specJoin_any c d a b w
  rw [jnA_comm, jnB_comm] at this
  exact this

end Go.Proofs.YtlddhfimiignaaaGreat
