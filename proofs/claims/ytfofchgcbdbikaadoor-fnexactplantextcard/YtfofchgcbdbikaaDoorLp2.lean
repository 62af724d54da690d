/- How a plan is written, by the program and by the model: the contracts. -/
import Derived.Test.YtfofchgcbdbikaaDoorLp1
import Derived.Laws.IdiomStrings
namespace Go.Proofs.YtfofchgcbdbikaaDoor
open Go.RowKit Go.Shelf

set_option maxRecDepth 100000 in
set_option maxHeartbeats 4000000 in
theorem implPlanText_any (ea : Addr) {t : PT} {B : Nat} {s : Value} {w : World} (hsm : t.sm) (hs : KdS B w t s) (hg : w.cell? ⟨0, 0, none⟩ = some (erV ea)) :
    Calls Tryd.prog 8 #[pl t.k t.n s] w fun e w' => e = .returned (.string (baS (planText t))) ∧ Below w.heap.size w w' := by
  have bP : Bk (w.alloc (.cells #[.int .i64 t.k, .int .i64 t.n, s] 25)) w.heap.size #[.int .i64 t.k, .int .i64 t.n, s] 25 := Bk.new _ _ rfl
  have hb0 : Below w.heap.size w (w.alloc (.cells #[.int .i64 t.k, .int .i64 t.n, s] 25)) := bAlloc (Below.refl _ _) _
  obtain ⟨x0, x1, x2⟩ := bP.three'
  have HC := (show Hid _ from okPlan_any ea 4 t 1 (by omega) (by omega) hsm (hs.keep hb0) (cell_below hb0 hg))
  obtain ⟨a, c, rfl⟩ := hs.sl
  clear hs hsm bP
  go_enter Tryd.func8, Tryd.ntmps8
  go_wp2_with fail
  refine Calls.mono HC.out ?_
  rintro e w1 ⟨hor, hb1⟩
  have hbw := bStep hb0 hb1
  clear HC x0 x1 x2
  rcases hor with ⟨hp, a3, n3, c3, rfl, hok⟩ | ⟨hp, rfl⟩
  · have hb2 := bAlloc hbw (.cells #[kiV t, .slice a3 n3 c3] 49)
    have hg2 := cell_below hb2 hg
    have b3 : Bk (w1.alloc (.cells #[kiV t, .slice a3 n3 c3] 49)) w1.heap.size #[kiV t, .slice a3 n3 c3] 49 := Bk.new _ _ rfl
    have HO := (show Hid _ from okS_keepL (bAlloc (Below.refl _ _) (.cells #[kiV t, .slice a3 n3 c3] 49)) hok)
    have HP := (show Hid (pokB t 4 = true) from hp)
    clear hok hp
    go_wp2_with fail
    refine (is_nil _ _).mono ?_
    rintro e w2 ⟨rfl, rfl⟩
    obtain ⟨y0, y1, _, _⟩ := b3.two
    go_wp2_with fail
    refine (text_any 4 t (by omega) HP.out HO.out).mono ?_
    rintro e w3 ⟨rfl, hb3⟩
    have hbf := bStep hb2 hb3
    go_wp2_with fail
    go_ret
    exact ⟨by unfold planText; rw [HP.out]; rfl, hbf⟩
  · have hb2 := bAlloc hbw (.cells #[.nilIface, .slice none 0 0] 49)
    have hg2 := cell_below hb2 hg
    go_wp2_with fail
    refine (is_same _ _).mono ?_
    rintro e w2 ⟨rfl, rfl⟩
    go_wp2_with fail
    go_ret
    exact ⟨by unfold planText; rw [hp]; rfl, hb2⟩
theorem byte_run {w : World} {x : UInt8} {n : Int} (hx : (x.toNat : Int) = n) : (convert 22 9 (.slice (some ⟨w.heap.size, 0, none⟩) 1 1)).run Tryd.prog (w.alloc (.cells #[.int .u8 n] 5)) = .ok (.string (baS [x])) (w.alloc (.cells #[.int .u8 n] 5)) :=
  run_convert_bytes_back (P := Tryd.prog) (w.alloc (.cells #[.int .u8 n] 5)) 22 9 5 ⟨w.heap.size, 0, none⟩ 1 [x] Tryd.underlying22 Tryd.underlying5 Tryd.underlying9 (fun j hj => by
    obtain rfl : j = 0 := (by simpa using hj)
    have b := Bk.new (w := w) #[Value.int .u8 n] 5 rfl
    unfold Bk at b
    show World.cell? _ ⟨w.heap.size, 0 + 0, none⟩ = _
    simp only [World.cell?, b]
    simp [hx])
theorem dig_nat {n : Int} {x : UInt8} (hx : UInt8.ofNat (48 + n.toNat) = x) (h0 : 0 ≤ n) (h9 : n ≤ 9) : (x.toNat : Int) = 48 + n := by
  subst hx
  rw [UInt8.toNat_ofNat']
  omega
set_option maxRecDepth 100000 in
set_option maxHeartbeats 4000000 in
/-- A number of one figure, as the model writes it. -/
theorem l6Dec_dig {n : Int} {x : UInt8} (hx : UInt8.ofNat (48 + n.toNat) = x) (h0 : 0 ≤ n) (h9 : n ≤ 9) (w : World) : Calls Tryd.prog 44 #[.int .i64 n] w fun e w' => e = .returned (.string (baS [x])) ∧ Below w.heap.size w w' := by
  have g1 : ¬ (n < -9223372036854775807) := by omega
  have g2 : ¬ (n < 0) := by omega
  have g3 : n < 10 := by omega
  have e1 : IntKind.i64.wrap (48 + n) = 48 + n := by rw [IntKind.wrap_i64]; omega
  have hr := byte_run (w := w) (dig_nat hx h0 h9)
  clear hx
  go_enter Tryd.func44, Tryd.ntmps44
  go_wp2_with fail
  go_ret
  exact ⟨rfl, bAlloc (Below.refl _ _) _⟩
end Go.Proofs.YtfofchgcbdbikaaDoor
