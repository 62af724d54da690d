import Derived.Test.YtbdpcngcbnoioaaGreatDoorGtX
set_option maxRecDepth 100000
namespace Go.Proofs.YtbdpcngcbnoioaaGreatDoor
open Go.RowKit
open Go.IntKind renaming wrap_i64->fM,i64->fQ
open Go renaming IntKind->gD
open _root_.List renaming filter_append->gM,map_append->gQ
variable {k:Nat}
def oZ (x:It)(t:List It):List It:=(t.filter fun y=>decide (x.1.1=y.1.1)).map fun y=>((x.1.1,pv x.1.2 y.1.2),x.2*y.2)
theorem FU (s t:List It):eY s t=s.flatMap fun x=>oZ x t:=rfl
theorem Kz {s:List It}{i:Nat}{x:It}(t:List It)(h:s[i]?=some x):eY (s.take (i+1)) t=eY (s.take i) t++oZ x t:=by
 rw[fK h,FU,List.flatMap_append];simp[FU]
theorem PN {t:List It}{x y:It}(h:t[k]?=some y)(e:x.1.1=y.1.1):oZ x (t.take (k+1))=oZ x (t.take k)++[((x.1.1,pv x.1.2 y.1.2),x.2*y.2)]:=by
 unfold oZ;rw[fK h,gM,gQ];simp[e]
theorem QG {t:List It}{x y:It}(h:t[k]?=some y)(e:x.1.1≠y.1.1):oZ x (t.take (k+1))=oZ x (t.take k):=by
 unfold oZ;rw[fK h,gM,gQ];simp[e]
theorem Ha {l:List It}{r:It}(h:l[k]?=some r): -aJ l<=r.2/\r.2<=aJ l:=by
 induction l generalizing k with
 | nil=>simp at h
 | cons q l ih=>
  have hp:=eN l;cases k with
  | zero=>simp at h;subst h;simp only[aJ];omega
  | succ k=>simp at h;have:=ih h;simp only[aJ];omega
theorem Iw {a b:Int}(ha:0<=a)(A:a<=99)(J:0<=b)(s:b<=99)(w:World):
  Calls Tryz.prog 229 #[.int .i64 a,.int .i64 b] w fun e g=>e=.returned (.int .i64 (pv a b))/\Below w.heap.size w g:=by
 have G:fQ.wrap (a*10)=a*10:=by rw[fM]<;>omega
 have D:fQ.wrap (a*10+b)=a*10+b:=by rw[fM]<;>omega
 have I:(a*10+b).tmod 100=pv a b:=by unfold pv;rw[Int.tmod_eq_emod_of_nonneg (by omega)];congr 1;omega
 have H:0<=pv a b/\pv a b<100:=by unfold pv;omega
 have B:fQ.wrap (pv a b)=pv a b:=by rw[fM]<;>omega
 generalize pv a b=P at*;go_enter Tryz.func229,Tryz.ntmps229;go_wp2_with fail;go_ret;exact⟨rfl,Below.refl _ _⟩
theorem vA {a b:Int}(ha:0<=a)(B:a<=99)(H:0<=b)(A:b<=99)(w:World):
  Calls Tryz.prog 223 #[.int .i64 a,.int .i64 b] w fun e s=>e=.returned (.int .i64 (pv a b))/\Below w.heap.size w s:=by
 have G:fQ.wrap (10*a)=10*a:=by rw[fM]<;>omega
 have D:fQ.wrap (10*a+b)=10*a+b:=by rw[fM]<;>omega
 go_enter Tryz.func223,Tryz.ntmps223;go_wp2_with fail;refine (pT (10*a+b) _).mono ?_;rintro e w1 ⟨rfl,g⟩;go_wp2_with fail;go_ret;exact⟨rfl,g⟩
end Go.Proofs.YtbdpcngcbnoioaaGreatDoor
