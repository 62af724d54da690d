import Derived.Test.YtbdpcngcbnoioaaGreatDoorGtX
set_option maxRecDepth 100000
namespace Go.Proofs.YtbdpcngcbnoioaaGreatDoor
open Go.RowKit
open Go.IntKind renaming wrap_i64->fD,i64->fH
open Go renaming IntKind->fV
theorem Hd {a b:Int}(ha:0<=a)(A:a<=99)(I:0<=b)(s:b<=99)(w:World):
  Calls Tryz.prog 229 #[.int .i64 a,.int .i64 b] w fun e g=>e=.returned (.int .i64 (pv a b))/\Below w.heap.size w g:=by
 have F:fH.wrap (a*10)=a*10:=by rw[fD]<;>omega
 have D:fH.wrap (a*10+b)=a*10+b:=by rw[fD]<;>omega
 have H:(a*10+b).tmod 100=pv a b:=by unfold pv;rw[Int.tmod_eq_emod_of_nonneg (by omega)];congr 1;omega
 have G:0<=pv a b/\pv a b<100:=by unfold pv;omega
 have B:fH.wrap (pv a b)=pv a b:=by rw[fD]<;>omega
 generalize pv a b=P at*;go_enter Tryz.func229,Tryz.ntmps229;go_wp2_with fail;go_ret;exact⟨rfl,Below.refl _ _⟩
theorem FI {a b:Int}(ha:0<=a)(B:a<=99)(G:0<=b)(A:b<=99)(w:World):
  Calls Tryz.prog 223 #[.int .i64 a,.int .i64 b] w fun e s=>e=.returned (.int .i64 (pv a b))/\Below w.heap.size w s:=by
 have F:fH.wrap (10*a)=10*a:=by rw[fD]<;>omega
 have D:fH.wrap (10*a+b)=10*a+b:=by rw[fD]<;>omega
 go_enter Tryz.func223,Tryz.ntmps223;go_wp2_with fail;refine (nM (10*a+b) _).mono ?_;rintro e w1 ⟨rfl,g⟩;go_wp2_with fail;go_ret;exact⟨rfl,g⟩
end Go.Proofs.YtbdpcngcbnoioaaGreatDoor
