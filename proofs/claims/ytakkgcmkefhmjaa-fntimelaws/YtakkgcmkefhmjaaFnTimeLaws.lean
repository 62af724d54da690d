/- For all bytes: join and meet of the two times that they draw take one another up, in either order and with the same twice, and TimeJoin, TimeMeet and TimeLess of the program answer as the model's; the argument reads afterwards as before. No condition. -/
import Derived.Test.YtakkgcmkefhmjaaTimeC
import Derived.Test.YtakkgcmkefhmjaaTimeD
import Derived.Test.YtakkgcmkefhmjaaTimeE
import Derived.Test.YtakkgcmkefhmjaaDraw4
import Derived.ProofKit
import Derived.OpenShut
import Derived.ShutString
import Derived.ChangeOld
import Derived.Below
import Derived.Lib.SmallJoins
namespace Go.Proofs.Ytakkgcmkefhmjaa
open Go.ChangeShapes Go.WideShapes Go.ChangeAt Go.RowKit Go.Joins

theorem jnA_ok {a b c d : Int} (h : okB a b = true) (h' : okB c d = true) : jnA a b c d = max a c := by simp [jnA, h, h']
theorem jnB_ok {a b c d : Int} (h : okB a b = true) (h' : okB c d = true) : jnB a b c d = max b d := by simp [jnB, h, h']
theorem mtA_ok {a b c d : Int} (h : okB a b = true) (h' : okB c d = true) : mtA a b c d = min a c := by simp [mtA, h, h']
theorem mtB_ok {a b c d : Int} (h : okB a b = true) (h' : okB c d = true) : mtB a b c d = min b d := by simp [mtB, h, h']
theorem leB_ok {a b c d : Int} (h : okB a b = true) (h' : okB c d = true) : leB a b c d = (decide (a ≤ c) && decide (b ≤ d)) := by simp [leB, h, h']

namespace FnTimeLaws
set_option maxHeartbeats 4000000 in
theorem walk (x0 : Option Addr) (len0 cap0 : Nat) (w : World) (h0 : Src w (.slice x0 len0 cap0) len0) :
    Calls Try.prog 6 #[.slice x0 len0 cap0] w fun e w' => e = .returned (.bool true) ∧ Below w.heap.size w w' := by
  by_cases g0 : (1048576 : Int) < (len0 : Int)
  · go_enter Try.func6, Try.ntmps6
    go_wp2_with fail
    go_ret
    exact ⟨rfl, Below.refl _ _⟩
  go_enter Try.func6, Try.ntmps6
  go_wp2_with fail
  refine (drawJoin_any _ _ _ _ h0).mono ?_
  rintro e w1 ⟨a, b, c, d, rfl, hb1⟩
  clear h0
  have bs : Bk ((w1.alloc (.cells #[.int .i64 a, .int .i64 b] 24)).alloc (.cells #[.int .i64 c, .int .i64 d] 24)) w1.heap.size #[.int .i64 a, .int .i64 b] 24 := (Bk.new _ _ rfl).alloc _
  have bt : Bk ((w1.alloc (.cells #[.int .i64 a, .int .i64 b] 24)).alloc (.cells #[.int .i64 c, .int .i64 d] 24)) (w1.heap.size + 1) #[.int .i64 c, .int .i64 d] 24 := Bk.new _ _ (by simp)
  have hb2 := bAlloc (bAlloc hb1 (.cells #[.int .i64 a, .int .i64 b] 24)) (.cells #[.int .i64 c, .int .i64 d] 24)
  go_wp2_with fail
  refine (implJoin_any _ _ _ _ _).mono ?_
  rintro e w3 ⟨rfl, hb3⟩
  generalize hJ1 : jnA a b c d = J1
  generalize hJ2 : jnB a b c d = J2
  have HJ1 : Hid (jnA a b c d = J1) := hJ1
  have HJ2 : Hid (jnB a b c d = J2) := hJ2
  clear hJ1 hJ2
  have bs3 := bs.keep hb3
  have bt3 := bt.keep hb3
  have hbw3 := bStep hb2 hb3
  clear bs bt hb2 hb3
  obtain ⟨s0, s1, _, _⟩ := bs3.two
  obtain ⟨t0, t1, _, _⟩ := bt3.two
  have ls := bs3.lt
  have lt := bt3.lt
  go_wp2_with fail
  refine (implMeet_any _ _ _ _ _).mono ?_
  rintro e w4 ⟨rfl, hb4⟩
  generalize hM1 : mtA a b c d = M1
  generalize hM2 : mtB a b c d = M2
  have HM1 : Hid (mtA a b c d = M1) := hM1
  have HM2 : Hid (mtB a b c d = M2) := hM2
  clear hM1 hM2
  have bj4 := (Bk.new (w := w3) #[.int .i64 J1, .int .i64 J2] 24 rfl).keep hb4
  have bs4 := (bs3.alloc _).keep hb4
  have bt4 := (bt3.alloc _).keep hb4
  have hbw4 := bStep (bAlloc hbw3 _) hb4
  clear s0 s1 t0 t1 bs3 bt3 hbw3 hb4
  go_upto_region 6 with fail
  have bm5 := Bk.new (w := w4) #[.int .i64 M1, .int .i64 M2] 24 rfl
  have bj5 := bj4.alloc (.cells #[.int .i64 M1, .int .i64 M2] 24)
  have bs5 := bs4.alloc (.cells #[.int .i64 M1, .int .i64 M2] 24)
  have bt5 := bt4.alloc (.cells #[.int .i64 M1, .int .i64 M2] 24)
  have hb5 := bAlloc hbw4 (.cells #[.int .i64 M1, .int .i64 M2] 24)
  generalize (w4.alloc (.cells #[.int .i64 M1, .int .i64 M2] 24)) = w5 at *
  clear bj4 bs4 bt4 hbw4
  have s0 := bs5.bel0
  have s1 := bs5.bel1
  have t0 := bt5.bel0
  have t1 := bt5.bel1
  have j0 := bj5.bel0
  have j1 := bj5.bel1
  have m0 := bm5.bel0
  have m1 := bm5.bel1
  have hne := bel_some w5
  have kJ1 := HJ1.out
  have kJ2 := HJ2.out
  have kM1 := HM1.out
  have kM2 := HM2.out
  cases hs : okB a b
  · (refine wp_region_bel (by kernel_rfl) (by kernel_rfl) ?_; (repeat (go_big_quiet_step ((first | (go_at_call 13; exact calls_bel (specJoin_any _ _ _ _ _)) | (go_at_call 20; exact calls_bel (specMeet_any _ _ _ _ _)) | (go_at_call 14; exact calls_bel (specOk_any _ _ _)))))); refine wpQuiet_nil ?_)
    intro w6 hw6
    replace hw6 := bel_out hw6
    clear s0 s1 t0 t1 j0 j1 m0 m1 hne
    have s0 := (bs5.keep hw6).bel0
    have s1 := (bs5.keep hw6).bel1
    have t0 := (bt5.keep hw6).bel0
    have t1 := (bt5.keep hw6).bel1
    have j0 := (bj5.keep hw6).bel0
    have j1 := (bj5.keep hw6).bel1
    have m0 := (bm5.keep hw6).bel0
    have m1 := (bm5.keep hw6).bel1
    have hne := bel_some w6
    go_wp2_with fail
    (refine wp_region_bel (by kernel_rfl) (by kernel_rfl) ?_; (repeat (go_big_quiet_step ((first | (go_at_call 13; exact calls_bel (specJoin_any _ _ _ _ _)) | (go_at_call 20; exact calls_bel (specMeet_any _ _ _ _ _)))))); refine wpQuiet_nil ?_)
    intro w7 hw7
    replace hw7 := bel_out hw7
    go_wp2_with fail
    go_ret
    refine ⟨rfl, ?_⟩
    repeat' (first | (with_reducible exact Below.refl _ _) | (with_reducible assumption) | (with_reducible refine bStep ?_ (by with_reducible assumption)) | (with_reducible refine bAlloc ?_ _) | (with_reducible refine Below.drew ?_) | (with_reducible refine bDrewN ?_ _) | (with_reducible refine Below.setCell ?_ ?_ _) | (simp; done) | (simp; omega) | omega)
  · cases ht : okB c d
    · (refine wp_region_bel (by kernel_rfl) (by kernel_rfl) ?_; (repeat (go_big_quiet_step ((first | (go_at_call 13; exact calls_bel (specJoin_any _ _ _ _ _)) | (go_at_call 20; exact calls_bel (specMeet_any _ _ _ _ _)) | (go_at_call 14; exact calls_bel (specOk_any _ _ _)))))); refine wpQuiet_nil ?_)
      intro w6 hw6
      replace hw6 := bel_out hw6
      clear s0 s1 t0 t1 j0 j1 m0 m1 hne
      have s0 := (bs5.keep hw6).bel0
      have s1 := (bs5.keep hw6).bel1
      have t0 := (bt5.keep hw6).bel0
      have t1 := (bt5.keep hw6).bel1
      have j0 := (bj5.keep hw6).bel0
      have j1 := (bj5.keep hw6).bel1
      have m0 := (bm5.keep hw6).bel0
      have m1 := (bm5.keep hw6).bel1
      have hne := bel_some w6
      go_wp2_with fail
      (refine wp_region_bel (by kernel_rfl) (by kernel_rfl) ?_; (repeat (go_big_quiet_step ((first | (go_at_call 13; exact calls_bel (specJoin_any _ _ _ _ _)) | (go_at_call 20; exact calls_bel (specMeet_any _ _ _ _ _)))))); refine wpQuiet_nil ?_)
      intro w7 hw7
      replace hw7 := bel_out hw7
      go_wp2_with fail
      go_ret
      refine ⟨rfl, ?_⟩
      repeat' (first | (with_reducible exact Below.refl _ _) | (with_reducible assumption) | (with_reducible refine bStep ?_ (by with_reducible assumption)) | (with_reducible refine bAlloc ?_ _) | (with_reducible refine Below.drew ?_) | (with_reducible refine bDrewN ?_ _) | (with_reducible refine Below.setCell ?_ ?_ _) | (simp; done) | (simp; omega) | omega)
    · by_cases h1 : a ≤ c
      · by_cases h2 : b ≤ d
        · skip
          have k0 : jnA a b c d = c := by rw [jnA_ok (by assumption) (by assumption)]; omega
          have k1 : jnB a b c d = d := by rw [jnB_ok (by assumption) (by assumption)]; omega
          have k2 : mtA a b c d = a := by rw [mtA_ok (by assumption) (by assumption)]; omega
          have k3 : mtB a b c d = b := by rw [mtB_ok (by assumption) (by assumption)]; omega
          have k4 : jnA c d a b = c := by rw [jnA_ok (by assumption) (by assumption)]; omega
          have k5 : jnB c d a b = d := by rw [jnB_ok (by assumption) (by assumption)]; omega
          have k6 : mtA c d a b = a := by rw [mtA_ok (by assumption) (by assumption)]; omega
          have k7 : mtB c d a b = b := by rw [mtB_ok (by assumption) (by assumption)]; omega
          have k8 : jnA a b a b = a := by rw [jnA_ok (by assumption) (by assumption)]; omega
          have k9 : jnB a b a b = b := by rw [jnB_ok (by assumption) (by assumption)]; omega
          have k10 : leB a b c d = true := by rw [leB_ok (by assumption) (by assumption)]; simp; omega
          obtain rfl : c = J1 := (show jnA a b c d = c from by assumption).symm.trans kJ1
          obtain rfl : d = J2 := (show jnB a b c d = d from by assumption).symm.trans kJ2
          obtain rfl : a = M1 := (show mtA a b c d = a from by assumption).symm.trans kM1
          obtain rfl : b = M2 := (show mtB a b c d = b from by assumption).symm.trans kM2
          (refine wp_region_bel (by kernel_rfl) (by kernel_rfl) ?_; (repeat (go_big_quiet_step ((first | (go_at_call 13; exact calls_bel (specJoin_any _ _ _ _ _)) | (go_at_call 20; exact calls_bel (specMeet_any _ _ _ _ _)) | (go_at_call 14; exact calls_bel (specOk_any _ _ _)))))); refine wpQuiet_nil ?_)
          intro w6 hw6
          replace hw6 := bel_out hw6
          clear s0 s1 t0 t1 j0 j1 m0 m1 hne
          have s0 := (bs5.keep hw6).bel0
          have s1 := (bs5.keep hw6).bel1
          have t0 := (bt5.keep hw6).bel0
          have t1 := (bt5.keep hw6).bel1
          have j0 := (bj5.keep hw6).bel0
          have j1 := (bj5.keep hw6).bel1
          have m0 := (bm5.keep hw6).bel0
          have m1 := (bm5.keep hw6).bel1
          have hne := bel_some w6
          go_wp2_with fail
          (refine wp_region_bel (by kernel_rfl) (by kernel_rfl) ?_; (repeat (go_big_quiet_step ((first | (go_at_call 12; exact calls_bel (implJoin_any _ _ _ _ _)) | (go_at_call 19; exact calls_bel (implMeet_any _ _ _ _ _)) | (go_at_call 16; exact calls_bel (implLess_any _ _ _ _ _)))))); refine wpQuiet_nil ?_)
          intro w7 hw7
          replace hw7 := bel_out hw7
          go_wp2_with fail
          go_ret
          refine ⟨rfl, ?_⟩
          repeat' (first | (with_reducible exact Below.refl _ _) | (with_reducible assumption) | (with_reducible refine bStep ?_ (by with_reducible assumption)) | (with_reducible refine bAlloc ?_ _) | (with_reducible refine Below.drew ?_) | (with_reducible refine bDrewN ?_ _) | (with_reducible refine Below.setCell ?_ ?_ _) | (simp; done) | (simp; omega) | omega)
        · skip
          have n1 : (b == d) = false := by simp; omega
          have n2 : (d == b) = false := by simp; omega
          have ok_ad : okB a d = true := by simp [okB] at hs ht ⊢; omega
          have ok_cb : okB c b = true := by simp [okB] at hs ht ⊢; omega
          have k0 : jnA a b c d = c := by rw [jnA_ok (by assumption) (by assumption)]; omega
          have k1 : jnB a b c d = b := by rw [jnB_ok (by assumption) (by assumption)]; omega
          have k2 : mtA a b c d = a := by rw [mtA_ok (by assumption) (by assumption)]; omega
          have k3 : mtB a b c d = d := by rw [mtB_ok (by assumption) (by assumption)]; omega
          have k4 : jnA c d a b = c := by rw [jnA_ok (by assumption) (by assumption)]; omega
          have k5 : jnB c d a b = b := by rw [jnB_ok (by assumption) (by assumption)]; omega
          have k6 : mtA c d a b = a := by rw [mtA_ok (by assumption) (by assumption)]; omega
          have k7 : mtB c d a b = d := by rw [mtB_ok (by assumption) (by assumption)]; omega
          have k8 : jnA a b a d = a := by rw [jnA_ok (by assumption) (by assumption)]; omega
          have k9 : jnB a b a d = b := by rw [jnB_ok (by assumption) (by assumption)]; omega
          have k10 : mtA a b c b = a := by rw [mtA_ok (by assumption) (by assumption)]; omega
          have k11 : mtB a b c b = b := by rw [mtB_ok (by assumption) (by assumption)]; omega
          have k12 : jnA a b a b = a := by rw [jnA_ok (by assumption) (by assumption)]; omega
          have k13 : jnB a b a b = b := by rw [jnB_ok (by assumption) (by assumption)]; omega
          have k14 : leB a b c d = false := by rw [leB_ok (by assumption) (by assumption)]; simp; omega
          obtain rfl : c = J1 := (show jnA a b c d = c from by assumption).symm.trans kJ1
          obtain rfl : b = J2 := (show jnB a b c d = b from by assumption).symm.trans kJ2
          obtain rfl : a = M1 := (show mtA a b c d = a from by assumption).symm.trans kM1
          obtain rfl : d = M2 := (show mtB a b c d = d from by assumption).symm.trans kM2
          (refine wp_region_bel (by kernel_rfl) (by kernel_rfl) ?_; (repeat (go_big_quiet_step ((first | (go_at_call 13; exact calls_bel (specJoin_any _ _ _ _ _)) | (go_at_call 20; exact calls_bel (specMeet_any _ _ _ _ _)) | (go_at_call 14; exact calls_bel (specOk_any _ _ _)))))); refine wpQuiet_nil ?_)
          intro w6 hw6
          replace hw6 := bel_out hw6
          clear s0 s1 t0 t1 j0 j1 m0 m1 hne
          have s0 := (bs5.keep hw6).bel0
          have s1 := (bs5.keep hw6).bel1
          have t0 := (bt5.keep hw6).bel0
          have t1 := (bt5.keep hw6).bel1
          have j0 := (bj5.keep hw6).bel0
          have j1 := (bj5.keep hw6).bel1
          have m0 := (bm5.keep hw6).bel0
          have m1 := (bm5.keep hw6).bel1
          have hne := bel_some w6
          go_wp2_with fail
          (refine wp_region_bel (by kernel_rfl) (by kernel_rfl) ?_; (repeat (go_big_quiet_step ((first | (go_at_call 12; exact calls_bel (implJoin_any _ _ _ _ _)) | (go_at_call 19; exact calls_bel (implMeet_any _ _ _ _ _)) | (go_at_call 16; exact calls_bel (implLess_any _ _ _ _ _)))))); refine wpQuiet_nil ?_)
          intro w7 hw7
          replace hw7 := bel_out hw7
          go_wp2_with fail
          go_ret
          refine ⟨rfl, ?_⟩
          repeat' (first | (with_reducible exact Below.refl _ _) | (with_reducible assumption) | (with_reducible refine bStep ?_ (by with_reducible assumption)) | (with_reducible refine bAlloc ?_ _) | (with_reducible refine Below.drew ?_) | (with_reducible refine bDrewN ?_ _) | (with_reducible refine Below.setCell ?_ ?_ _) | (simp; done) | (simp; omega) | omega)
      · by_cases h2 : b ≤ d
        · skip
          have n1 : (a == c) = false := by simp; omega
          have n2 : (c == a) = false := by simp; omega
          have ok_ad : okB a d = true := by simp [okB] at hs ht ⊢; omega
          have ok_cb : okB c b = true := by simp [okB] at hs ht ⊢; omega
          have k0 : jnA a b c d = a := by rw [jnA_ok (by assumption) (by assumption)]; omega
          have k1 : jnB a b c d = d := by rw [jnB_ok (by assumption) (by assumption)]; omega
          have k2 : mtA a b c d = c := by rw [mtA_ok (by assumption) (by assumption)]; omega
          have k3 : mtB a b c d = b := by rw [mtB_ok (by assumption) (by assumption)]; omega
          have k4 : jnA c d a b = a := by rw [jnA_ok (by assumption) (by assumption)]; omega
          have k5 : jnB c d a b = d := by rw [jnB_ok (by assumption) (by assumption)]; omega
          have k6 : mtA c d a b = c := by rw [mtA_ok (by assumption) (by assumption)]; omega
          have k7 : mtB c d a b = b := by rw [mtB_ok (by assumption) (by assumption)]; omega
          have k8 : jnA a b c b = a := by rw [jnA_ok (by assumption) (by assumption)]; omega
          have k9 : jnB a b c b = b := by rw [jnB_ok (by assumption) (by assumption)]; omega
          have k10 : mtA a b a d = a := by rw [mtA_ok (by assumption) (by assumption)]; omega
          have k11 : mtB a b a d = b := by rw [mtB_ok (by assumption) (by assumption)]; omega
          have k12 : jnA a b a b = a := by rw [jnA_ok (by assumption) (by assumption)]; omega
          have k13 : jnB a b a b = b := by rw [jnB_ok (by assumption) (by assumption)]; omega
          have k14 : leB a b c d = false := by rw [leB_ok (by assumption) (by assumption)]; simp; omega
          obtain rfl : a = J1 := (show jnA a b c d = a from by assumption).symm.trans kJ1
          obtain rfl : d = J2 := (show jnB a b c d = d from by assumption).symm.trans kJ2
          obtain rfl : c = M1 := (show mtA a b c d = c from by assumption).symm.trans kM1
          obtain rfl : b = M2 := (show mtB a b c d = b from by assumption).symm.trans kM2
          (refine wp_region_bel (by kernel_rfl) (by kernel_rfl) ?_; (repeat (go_big_quiet_step ((first | (go_at_call 13; exact calls_bel (specJoin_any _ _ _ _ _)) | (go_at_call 20; exact calls_bel (specMeet_any _ _ _ _ _)) | (go_at_call 14; exact calls_bel (specOk_any _ _ _)))))); refine wpQuiet_nil ?_)
          intro w6 hw6
          replace hw6 := bel_out hw6
          clear s0 s1 t0 t1 j0 j1 m0 m1 hne
          have s0 := (bs5.keep hw6).bel0
          have s1 := (bs5.keep hw6).bel1
          have t0 := (bt5.keep hw6).bel0
          have t1 := (bt5.keep hw6).bel1
          have j0 := (bj5.keep hw6).bel0
          have j1 := (bj5.keep hw6).bel1
          have m0 := (bm5.keep hw6).bel0
          have m1 := (bm5.keep hw6).bel1
          have hne := bel_some w6
          go_wp2_with fail
          (refine wp_region_bel (by kernel_rfl) (by kernel_rfl) ?_; (repeat (go_big_quiet_step ((first | (go_at_call 12; exact calls_bel (implJoin_any _ _ _ _ _)) | (go_at_call 19; exact calls_bel (implMeet_any _ _ _ _ _)) | (go_at_call 16; exact calls_bel (implLess_any _ _ _ _ _)))))); refine wpQuiet_nil ?_)
          intro w7 hw7
          replace hw7 := bel_out hw7
          go_wp2_with fail
          go_ret
          refine ⟨rfl, ?_⟩
          repeat' (first | (with_reducible exact Below.refl _ _) | (with_reducible assumption) | (with_reducible refine bStep ?_ (by with_reducible assumption)) | (with_reducible refine bAlloc ?_ _) | (with_reducible refine Below.drew ?_) | (with_reducible refine bDrewN ?_ _) | (with_reducible refine Below.setCell ?_ ?_ _) | (simp; done) | (simp; omega) | omega)
        · skip
          have n1 : (a == c) = false := by simp; omega
          have n2 : (c == a) = false := by simp; omega
          have k0 : jnA a b c d = a := by rw [jnA_ok (by assumption) (by assumption)]; omega
          have k1 : jnB a b c d = b := by rw [jnB_ok (by assumption) (by assumption)]; omega
          have k2 : mtA a b c d = c := by rw [mtA_ok (by assumption) (by assumption)]; omega
          have k3 : mtB a b c d = d := by rw [mtB_ok (by assumption) (by assumption)]; omega
          have k4 : jnA c d a b = a := by rw [jnA_ok (by assumption) (by assumption)]; omega
          have k5 : jnB c d a b = b := by rw [jnB_ok (by assumption) (by assumption)]; omega
          have k6 : mtA c d a b = c := by rw [mtA_ok (by assumption) (by assumption)]; omega
          have k7 : mtB c d a b = d := by rw [mtB_ok (by assumption) (by assumption)]; omega
          have k8 : mtA a b a b = a := by rw [mtA_ok (by assumption) (by assumption)]; omega
          have k9 : mtB a b a b = b := by rw [mtB_ok (by assumption) (by assumption)]; omega
          have k10 : jnA a b a b = a := by rw [jnA_ok (by assumption) (by assumption)]; omega
          have k11 : jnB a b a b = b := by rw [jnB_ok (by assumption) (by assumption)]; omega
          have k12 : leB a b c d = false := by rw [leB_ok (by assumption) (by assumption)]; simp; omega
          obtain rfl : a = J1 := (show jnA a b c d = a from by assumption).symm.trans kJ1
          obtain rfl : b = J2 := (show jnB a b c d = b from by assumption).symm.trans kJ2
          obtain rfl : c = M1 := (show mtA a b c d = c from by assumption).symm.trans kM1
          obtain rfl : d = M2 := (show mtB a b c d = d from by assumption).symm.trans kM2
          (refine wp_region_bel (by kernel_rfl) (by kernel_rfl) ?_; (repeat (go_big_quiet_step ((first | (go_at_call 13; exact calls_bel (specJoin_any _ _ _ _ _)) | (go_at_call 20; exact calls_bel (specMeet_any _ _ _ _ _)) | (go_at_call 14; exact calls_bel (specOk_any _ _ _)))))); refine wpQuiet_nil ?_)
          intro w6 hw6
          replace hw6 := bel_out hw6
          clear s0 s1 t0 t1 j0 j1 m0 m1 hne
          have s0 := (bs5.keep hw6).bel0
          have s1 := (bs5.keep hw6).bel1
          have t0 := (bt5.keep hw6).bel0
          have t1 := (bt5.keep hw6).bel1
          have j0 := (bj5.keep hw6).bel0
          have j1 := (bj5.keep hw6).bel1
          have m0 := (bm5.keep hw6).bel0
          have m1 := (bm5.keep hw6).bel1
          have hne := bel_some w6
          go_wp2_with fail
          (refine wp_region_bel (by kernel_rfl) (by kernel_rfl) ?_; (repeat (go_big_quiet_step ((first | (go_at_call 12; exact calls_bel (implJoin_any _ _ _ _ _)) | (go_at_call 19; exact calls_bel (implMeet_any _ _ _ _ _)) | (go_at_call 16; exact calls_bel (implLess_any _ _ _ _ _)))))); refine wpQuiet_nil ?_)
          intro w7 hw7
          replace hw7 := bel_out hw7
          go_wp2_with fail
          go_ret
          refine ⟨rfl, ?_⟩
          repeat' (first | (with_reducible exact Below.refl _ _) | (with_reducible assumption) | (with_reducible refine bStep ?_ (by with_reducible assumption)) | (with_reducible refine bAlloc ?_ _) | (with_reducible refine Below.drew ?_) | (with_reducible refine bDrewN ?_ _) | (with_reducible refine Below.setCell ?_ ?_ _) | (simp; done) | (simp; omega) | omega)
end FnTimeLaws
namespace RowFnTimeLaws
theorem own : ownKnob Try.prog.godebug = none := by kernel_rfl
theorem laidOut : laidOutB Try.prog = true := by kernel_rfl
set_option maxRecDepth 100000 in
theorem lifted (os : Os) (started : os.Started) (H : Type) (enc : TypeId × Value → H) :
    ReturnsInHanded {} Try.checked os 6 .any (Rows.fnTimeLawsSpec.pre6 enc Try.prog Try.f6 Rows.fnTimeLawsRow.domain false) (Rows.fnTimeLawsSpec.post enc Try.prog Try.f6 false true false false) := by
  refine returnsInHanded_of_change (C := Try.checked) own started (by kernel_rfl) Try.func6
    (ChangeSpec.witness6 (enc := enc) (C := Try.checked) false ⟨#[], #[.slice none 0 0], []⟩ 8 (by kernel_rfl) (by kernel_rfl) (by kernel_rfl) (by kernel_rfl)) ?_
  intro W base args ds gs before hval0 hW hcnd _
  have hval : ∀ (j : Nat) t v, Try.f6.params[j]? = some t → args[j]? = some v → Value.okWide Try.prog W .any base t v := hval0
  have hW' := hW
  obtain ⟨p, q, hA0, hV, rfl, hfz, hnd⟩ := hW
  have hA : DataW.TrodAll enc Try.prog W 0 (fun _ => true) true Try.f6.params.toList args.toList ds p := hA0
  rw [Try.params6] at hA hval
  obtain ⟨v0, vs0, d0, ds0, p0, q0, hargs, rfl, rfl, h0, r0⟩ := trodAll_cons hA
  obtain ⟨rfl, rfl, rfl⟩ := trodAll_nil r0
  obtain rfl : args = #[v0] := by cases args; simp_all
  obtain ⟨rfl, rfl⟩ := trodVars_none hV
  obtain ⟨a0, len0, cap0, rfl⟩ := okWide_slice Try.underlying22 (hval 0 22 v0 rfl rfl)
  have k0 := h0
  have lt0 : ∀ x ∈ p0, x.block < W.heap.size := by obtain ⟨m, hm⟩ := k0; exact DataW.trod_lt m _ _ _ hm
  have w0 : Src W (.slice a0 len0 cap0) len0 := by
    obtain ⟨fuel, hf⟩ := h0
    rcases open_ints Try.underlying22 Try.underlying5 (by kernel_rfl) hf with ⟨hcs, _⟩ | ⟨x, l, c, zs, hcs, _, hl, hm, hz, _, hcell, hwz⟩
    · simp [Value.cells] at hcs
      obtain ⟨rfl, rfl, rfl⟩ := hcs
      exact Src.nil _
    · simp [Value.cells] at hcs
      obtain ⟨rfl, rfl, rfl⟩ := hcs
      exact Src.of_row hl hm (by simpa using hz) hcell hwz
  clear hA0 hval0
  refine (FnTimeLaws.walk a0 len0 cap0 W w0).mono fun e W' ⟨he, bel⟩ => ?_
  subst he
  exact ⟨_, rfl, _, _, _, [], _, [], hW', trodAll_mk1 (shut_bool Try.underlying4 _), (trodAll_cons_mk (Below.trod laidOut (by kernel_rfl) (of_decide_eq_true (by kernel_rfl)) k0 bel lt0) trodAll_mk0), rfl, bel.frame _, fun h => by cases h⟩
theorem over : Rows.fnTimeLawsRow.holds Try.pinned (OpenSpec.ofChange Rows.fnTimeLawsSpec) :=
  OpenClaim.holds_of_wide 6 Try.f6 rfl rfl rfl rfl rfl rfl rfl ⟨rfl, rfl, rfl, rfl, rfl⟩ rfl rfl rfl rfl rfl (by kernel_rfl) Try.func6 (by kernel_rfl)
    (of_decide_eq_true (by kernel_rfl)) (by unfold Func.isWrapper; first | (rw [if_pos (by decide +kernel)]; kernel_rfl) | (rw [if_neg (by decide +kernel)]; exact ⟨rfl, rfl⟩))
    (fun os started H enc _ => lifted os started H enc)
end RowFnTimeLaws
theorem fnTimeLaws_holds : Rows.FnTimeLawsSaid := RowFnTimeLaws.over
end Go.Proofs.Ytakkgcmkefhmjaa
