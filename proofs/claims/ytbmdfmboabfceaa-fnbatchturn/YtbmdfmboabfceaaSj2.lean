/- BatchAt of the program: the contract, at every argument. -/
import Derived.Test.YtbmdfmboabfceaaSj
namespace Go.Proofs.Ytbmdfmboabfceaa
open Go.RowKit

set_option maxHeartbeats 2000000 in
theorem implAt_any (v : Value) (l : List Rw) (x y : Int) (w : World) (h : Rs w v l) :
    Calls Try.prog 49 #[v, tv x y] w fun e w' => ∃ o : Value, e = .returned o ∧ OwnI w' w.heap.size o (itemsL l x y) ∧ Below w.heap.size w w' := by
  have bt0 : Bk (w.alloc (.cells #[.int .i64 x, .int .i64 y] 31)) w.heap.size #[.int .i64 x, .int .i64 y] 31 := Bk.new _ _ rfl
  have hb0 := bAlloc (Below.refl w.heap.size w) (.cells #[.int .i64 x, .int .i64 y] 31)
  have h0 := h.keep hb0
  cases hk : rokB l
  · have HF : Hid (itemsL l x y = []) := items_no1 hk
    go_enter Try.func49, Try.ntmps49
    go_wp2_with fail
    refine (implRowsOk_eq hk h0).mono ?_
    rintro e w1 ⟨rfl, hb1⟩
    have hbw1 := bStep hb0 hb1
    go_wp2_with fail
    go_ret
    refine ⟨_, rfl, ?_, hbw1⟩
    rw [HF.out]
    exact ownK_nil _ _ _ _ _
  cases hk' : okB x y
  · have HF : Hid (itemsL l x y = []) := items_no2 hk'
    go_enter Try.func49, Try.ntmps49
    go_wp2_with fail
    refine (implRowsOk_eq hk h0).mono ?_
    rintro e w1 ⟨rfl, hb1⟩
    have hbw1 := bStep hb0 hb1
    obtain ⟨t0, t1, _, _⟩ := (bt0.keep hb1).two
    go_wp2_with fail
    refine (implTimeOk_eq hk' _).mono ?_
    rintro e w2 ⟨rfl, hb2⟩
    have hbw2 := bStep hbw1 hb2
    go_wp2_with fail
    go_ret
    refine ⟨_, rfl, ?_, hbw2⟩
    rw [HF.out]
    exact ownK_nil _ _ _ _ _
  obtain ⟨a, cap, rfl, -, -, -, -⟩ := Rs.open h
  exact callsIn_wide.1 (implAt_in a cap l x y w h hk hk')
end Go.Proofs.Ytbmdfmboabfceaa
