import Derived.Test.YtbdpcngcbnoioaaGreatDoorGtX
set_option maxRecDepth 100000
namespace Go.Proofs.YtbdpcngcbnoioaaGreatDoor
open Go.RowKit
theorem l3Pair_any {a b:Int} (ha:0<=a) (ha':a<=99) (hb:0<=b) (hb':b<=99) (w:World) :
  Calls Tryz.prog 229 #[.int .i64 a, .int .i64 b] w fun e w'=>e= .returned (.int .i64 (pv a b))/\Below w.heap.size w w':=by
 have i1:IntKind.i64.wrap (a*10)=a*10:=by rw [IntKind.wrap_i64]<;>omega
 have i2:IntKind.i64.wrap (a*10+b)=a*10+b:=by rw [IntKind.wrap_i64]<;>omega
 have ht:(a*10+b).tmod 100=pv a b:=by unfold pv;rw [Int.tmod_eq_emod_of_nonneg (by omega)];congr 1;omega
 have hv:0<=pv a b/\pv a b<100:=by unfold pv;omega
 have i3:IntKind.i64.wrap (pv a b)=pv a b:=by rw [IntKind.wrap_i64]<;>omega
 generalize pv a b=P at *;go_enter Tryz.func229,Tryz.ntmps229;go_wp2_with fail;go_ret;exact ⟨rfl,Below.refl _ _⟩
theorem pairVal_any {a b:Int} (ha:0<=a) (ha':a<=99) (hb:0<=b) (hb':b<=99) (w:World) :
  Calls Tryz.prog 223 #[.int .i64 a, .int .i64 b] w fun e w'=>e= .returned (.int .i64 (pv a b))/\Below w.heap.size w w':=by
 have i1:IntKind.i64.wrap (10*a)=10*a:=by rw [IntKind.wrap_i64]<;>omega
 have i2:IntKind.i64.wrap (10*a+b)=10*a+b:=by rw [IntKind.wrap_i64]<;>omega
 go_enter Tryz.func223,Tryz.ntmps223;go_wp2_with fail;refine (valOf_any (10*a+b) _).mono ?_;rintro e w1 ⟨rfl,hb1⟩;go_wp2_with fail;go_ret;exact ⟨rfl,hb1⟩
end Go.Proofs.YtbdpcngcbnoioaaGreatDoor
