import Derived.Test.YtbdpcngcbnoioaaGreatDoorGl1
import Derived.Test.YtbdpcngcbnoioaaGreatDoorGpa
namespace Go.Proofs.YtbdpcngcbnoioaaGreatDoor
open _root_.Option renaming bind_eq_some_iff->fD
open _root_.Bool renaming and_eq_true->fH
def La (k n:Int)(x y:List Rw):List Rw:=
 if k=2 then aP aQ (cN n x) else if k=3 then aP aQ (x++y) else if k=4 then dA x else if k=5 then aP aQ (d8 x y) else aP aQ (fT n x)
def qE (l:List Rw):Option (List Rw):=if aZ l then some l else none
def cW (a b:List Rw):PT->Option (List Rw)
 | .n0 _ n=>qE (if n=0 then a else b)
 | .n1 k n x=>(cW a b x).bind fun r=>qE (La k n r [])
 | .n2 k n x y=>(cW a b x).bind fun r=>(cW a b y).bind fun s=>qE (La k n r s)
theorem wY {l r:List Rw}:qE l=some r↔aZ l=true/\l=r:=by
 unfold qE;split<;>simp_all
theorem m7 {l:List Rw}(h:aZ l=true):qE l=some l:=by simp[qE,h]
theorem nH {l:List Rw}(h:aZ l=false):qE l=none:=by simp[qE,h]
theorem pY {a b r:List Rw}{t:PT}(h:cW a b t=some r):aZ r=true:=by
 cases t with
 | n0 k n=>obtain⟨h1,rfl⟩:=wY.1 h;exact h1
 | n1 k n x=>
  obtain⟨s,_,h2⟩:=fD.1 h;obtain⟨h1,rfl⟩:=wY.1 h2;exact h1
 | n2 k n x y=>
  obtain⟨s,_,h2⟩:=fD.1 h;obtain⟨u,_,h3⟩:=fD.1 h2;obtain⟨h1,rfl⟩:=wY.1 h3;exact h1
theorem LU {l:List Rw}(h:aZ l=true):dA l=dY l:=by
 have hr:=j7 h;have e:aP aQ (dY l)=dY l:=by
  refine Bw eE ?_ ?_
  ·unfold dY jX;rw[List.pairwise_map];exact yE h
  ·intro r hr;obtain⟨q,hq,rfl⟩:=List.mem_map.1 hr;have:=B6 h q hq;simp only;omega
 have g:aR (dY l)=true:=by
  refine xY (by unfold dY;rw[List.length_map];exact fP hr) fun r a=>?_;obtain⟨q,hq,rfl⟩:=List.mem_map.1 a;have:=eY hr hq;simp only[cU,fH]at this ⊢;refine⟨this.1,?_⟩;have h2:=this.2;simp only[cH,decide_eq_true_eq]at h2 ⊢;omega
 simp only[dA,hr,if_true];rw[BO (by rw[e];exact g),e]
theorem wW (l:List Rw):aZ (dA l)=true:=by
 unfold dA;split
 ·exact A6 _
 ·exact yP
theorem qK {t:PT}(h:dT t=true):(1<=t.k/\t.k<=6)/\(t.len:Int)=fA t.k/\eN t.k<=t.n/\t.n<=eP t.k:=by
 simp only[dT,cH,fH,decide_eq_true_eq]at h;exact⟨h.1.1,h.1.2,h.2⟩
def jB (a b:List Rw)(t:PT)(K:List (List Rw)):List Rw:=if t.k=1 then (if t.n=0 then a else b) else La t.k t.n (K.getD 0 []) (K.getD 1 [])
theorem Hy {k n:Int}(h:dT (.n0 k n)=true):k=1:=by
 obtain⟨g,a,-⟩:=qK h;simp only[PT.k,PT.len]at g a;have s:k=1\/k=2\/k=3\/k=4\/k=5\/k=6:=by omega
 rcases s with rfl|rfl|rfl|rfl|rfl|rfl
 ·rfl
 all_goals exact absurd a (by decide)
theorem IF {t:PT}(h:dT t=true)(hl:t.len≠0):t.k≠1:=fun e=>by
 obtain⟨-,a,-⟩:=qK h;rw[e]at a;have:fA 1=0:=rfl;omega
theorem Ei {a b:List Rw}{t:PT}{K:List (List Rw)}(g:dT t=true)(hl:K.length=t.len)(hp:∀j l,K[j]?=some l->cW a b (t.ab j)=some l):cW a b t=qE (jB a b t K):=by
 cases t with
 | n0 k n=>
  have:=Hy g;subst this
  rfl
 | n1 k n x=>
  have h1:=IF g (by simp[PT.len]);simp only[PT.k]at h1;obtain⟨l,rfl⟩:∃l,K=[l]:=by
   match K,hl with
   | [l],_=>exact⟨l,rfl⟩
  have:=hp 0 l rfl;simp only[PT.ab]at this;simp[cW,jB,PT.k,PT.n,h1,this]
 | n2 k n x y=>
  have h1:=IF g (by simp[PT.len]);simp only[PT.k]at h1;obtain⟨l,m,rfl⟩:∃l m,K=[l,m]:=by
   match K,hl with
   | [l,m],_=>exact⟨l,m,rfl⟩
  have w:=hp 0 l rfl;have s:=hp 1 m rfl;simp only[PT.ab]at w s;simp[cW,jB,PT.k,PT.n,h1,w,s]
theorem Af {a b:List Rw}{t:PT}{i:Nat}(hi:i<t.len)(h:cW a b (t.ab i)=none):cW a b t=none:=by
 cases t with
 | n0 k n=>simp[PT.len]at hi
 | n1 k n x=>simp only[PT.ab]at h;simp[cW,h]
 | n2 k n x y=>
  cases i with
  | zero=>simp only[PT.ab]at h;simp[cW,h]
  | succ i=>simp only[PT.ab]at h;simp[cW,h]
theorem CP {a b r:List Rw}{t:PT}(h:cW a b t=some r):r.length<=400:=fP (j7 (pY h))
theorem uU {l:List Rw}(h:aZ l=true):l.length<=400:=fP (j7 h)
def dG (t:PT):List (List Rw)->Option (List Rw)
 | [a,b]=>if d7 t 4&&aZ a&&aZ b then cW a b t else none
 | _=>none
theorem CT {t:PT}{a b:List Rw}(h:d7 t 4=true)(ha:aZ a=true)(g:aZ b=true):dG t [a,b]=cW a b t:=by simp[dG,h,ha,g]
theorem CV {t:PT}{K:List (List Rw)}(h:d7 t 4=false):dG t K=none:=by
 unfold dG;split
 ·simp[h]
 ·rfl
theorem Cf {t:PT}{K:List (List Rw)}(h:K.length≠2):dG t K=none:=by
 unfold dG;split
 ·simp at h
 ·rfl
theorem CD {t:PT}{K:List (List Rw)}(h:K.all aZ=false):dG t K=none:=by
 unfold dG;split
 ·rename_i a b;simp only[List.all_cons,List.all_nil,Bool.and_true]at h;rw[Bool.and_assoc,h];simp
 ·rfl
theorem oG {t:PT}{K:List (List Rw)}{r:List Rw}(h:dG t K=some r):∃a b,K=[a,b]/\d7 t 4=true/\aZ a=true/\aZ b=true/\cW a b t=some r:=by
 unfold dG at h;split at h
 ·rename_i a b
  split at h
  ·rename_i g;simp only[fH]at g;exact⟨a,b,rfl,g.1.1,g.1.2,g.2,h⟩
  ·cases h
 ·cases h
theorem qZ {α:Type}{K:List α}(h:K.length=2):∃a b,K=[a,b]:=by
 match K,h with
 | [a,b],_=>exact⟨a,b,rfl⟩
def nZ (_ _:List Rw)(_:PT):Prop:=True
theorem C5 {a b:List Rw}{t:PT}{i:Nat}(_:nZ a b t)(_:i<t.len):nZ a b (t.ab i):=trivial
theorem C3 {x y:List Rw}(hx:aR x=true)(a:aR y=true):(d8 x y).length<=160000/\aM (d8 x y)<=2305843009213693952:=by
 have h1:=xD x y;have h2:x.length*y.length<=400*400:=Nat.mul_le_mul (fP hx) (fP a);have h3:=zJ (mY hx) (mY a);constructor
 ·omega
 ·omega
end Go.Proofs.YtbdpcngcbnoioaaGreatDoor
