/- What is made of moved rows: plain facts. -/
import Derived.Test.YtpjmkejojenflaaGreatGl1
import Derived.Test.YtpjmkejojenflaaGreatGd3
namespace Go.Proofs.YtpjmkejojenflaaGreat

theorem join_move {a b : List Rw} {f : List (Int × Int)} (hf : fokB f = true) (ha : rokB a = true) (hb : rokB b = true) (la : a.length ≤ 11) (lb : b.length ≤ 11) (sa : absum a ≤ 33) (sb : absum b ≤ 33) {X Y : Int} (hX : okB X Y = true) (hc : askedB f X Y = true) :
    itemsL (fjoinL a b) X Y = itemsL (fjoinL (bmoveL a f) (bmoveL b f)) X Y := by
  have m1 : a.length * b.length ≤ 11 * 11 := Nat.mul_le_mul la lb
  have l1 := bmove_few a f
  have l2 := bmove_few b f
  have m2 : (bmoveL a f).length * (bmoveL b f).length ≤ 11 * 11 := Nat.mul_le_mul (by omega) (by omega)
  rw [join_items ha hb (by omega) sa sb (by omega) hX, join_items (bmove_rok a f) (bmove_rok b f) (by omega) (Int.le_trans (bmove_abs a f) sa) (Int.le_trans (bmove_abs b f) sb) (by omega) hX,
    move_items hf ha (by omega) hX hc, move_items hf hb (by omega) hX hc]
theorem each_move {a : List Rw} {f : List (Int × Int)} {how : Int} (hf : fokB f = true) (ha : rokB a = true) (sa : absum a ≤ 33) {X Y : Int} (hX : okB X Y = true) (hc : askedB f X Y = true) :
    itemsL (feachL a how) X Y = itemsL (feachL (bmoveL a f) how) X Y := by
  rw [each_items ha (by omega) hX, each_items (bmove_rok a f) (Int.le_trans (bmove_abs a f) (by omega)) hX, move_items hf ha (by omega) hX hc]
end Go.Proofs.YtpjmkejojenflaaGreat
