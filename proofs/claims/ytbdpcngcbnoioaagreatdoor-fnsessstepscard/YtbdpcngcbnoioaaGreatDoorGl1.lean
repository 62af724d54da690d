import Derived.Test.YtbdpcngcbnoioaaGreatDoorGtX
import Derived.Test.YtbdpcngcbnoioaaGreatDoorGd3
namespace Go.Proofs.YtbdpcngcbnoioaaGreatDoor
open _root_.List renaming mem_map->fD,mem_filter->fH,length_filter_le->fV,filter_cons->gY,mem_flatMap->gZ,map_cons->iC,mem_append->jU,length_map->kR,filter_eq_nil_iff->kX,length_append->lI,filter_congr->lY,length_cons->mF,range_succ->mJ,range->nU
open _root_.Bool renaming eq_false_iff->oJ,eq_iff_iff->oO,false_eq_true->qA
variable {k kind x y:Int}{t:Int×Int}
def cN (how:Int)(l:List Rw):List Rw:=(l.filter fun r=>eR how r.1.1).map fun r=>((cR how r.1.1,r.1.2),r.2)
def ED (s t:Sp):Sp:=((s.1.1,pv s.1.2 t.1.2),(iE s.2.1 s.2.2 t.2.1 t.2.2,iF s.2.1 s.2.2 t.2.1 t.2.2))
def jH (x:Rw)(t:List Rw):List Rw:=(t.filter fun y=>decide (x.1.1.1=y.1.1.1)).map fun y=>(ED x.1 y.1,x.2*y.2)
def d8 (s t:List Rw):List Rw:=s.flatMap fun x=>jH x t
theorem pS (a:Int)(l:List Rw):(cN a l).length<=l.length:=by
 unfold cN;rw[kR];exact fV _ _
theorem CN (a:Int)(l:List Rw):aM (cN a l)<=aM l:=by
 induction l with
 | nil=>simp[cN]
 | cons r l ih=>
  unfold cN at ih ⊢;rw[gY]
  by_cases h:eR a r.1.1=true
  ·simp only[h,if_true,iC,aM];omega
  ·rw[if_neg h];simp only[aM];omega
theorem BY {r:Rw}(h:cU r=true):mM r.1.1:=by
 obtain⟨h1,h2,_⟩:=KB h;simp only[cH,decide_eq_true_eq]at h1 h2;exact⟨h1.1,h1.2,h2.1,h2.2⟩
theorem I0 {s:Sp}(h:mM s.1)(a:bH s.2.1 s.2.2=true):cH s.1.1 0 3=true/\cH s.1.2 0 99=true/\bH s.2.1 s.2.2=true:=by
 obtain⟨h1,h2,h3,h4⟩:=h;exact⟨by simp[cH];omega,by simp[cH];omega,a⟩
theorem IA {a:Int}{l:List Rw}(h:aR l=true):∀r∈cN a l,mM r.1.1/\bH r.1.2.1 r.1.2.2=true:=fun r hr=>by
 unfold cN at hr;obtain⟨q,hq,rfl⟩:=fD.1 hr;have g:=eY h (fH.1 hq).1;exact⟨OH (BY g),qY (r:=q) g⟩
theorem JV {a:Int}{l:List Rw}(h:aR l=true):aR (cN a l)=true:=by
 refine xY (Nat.le_trans (pS a l) (fP h)) fun r hr=>?_;obtain⟨h1,h2⟩:=IA h r hr;obtain⟨A,w,s⟩:=I0 h1 h2;unfold cN at hr;obtain⟨q,hq,rfl⟩:=fD.1 hr;have B:=lG (eY h (fH.1 hq).1);have g:cH q.2 (-99999) 99999=true:=by simp[cH];omega
 simp only[cU,A,w,s,g,Bool.and_self]
theorem KA (l:List Rw)(x y:Int):aM (cX l x y)<=aM l:=by
 induction l with
 | nil=>simp[cX,aM]
 | cons r l ih=>
  unfold cX at ih ⊢;rw[gY]
  by_cases h:cV r.1.2.1 r.1.2.2 x y=true
  ·simp only[h,if_true,iC,aM];omega
  ·rw[if_neg h];simp only[aM];omega
theorem L1 (l:List Rw)(x y:Int):(cX l x y).length<=l.length:=by
 unfold cX;rw[kR];exact fV _ _
theorem mY {l:List Rw}(h:aR l=true):aM l<=39999600:=by
 have h1:=lQ (l:=l) (c:=99999) fun r hr=>lG (eY h hr);have h2:=fP h;have:(99999:Int)*l.length<=39999600:=by omega
 omega
theorem Nv {l:List Rw}(h:aR l=true)(x y:Int):∀r∈cX l x y,mM r.1:=fun r hr=>by
 unfold cX at hr;obtain⟨q,hq,rfl⟩:=fD.1 hr;exact BY (eY h (fH.1 hq).1)
theorem gQ (l:List Rw)(x y:Int):d6 (bL l x y)=true:=by
 unfold bL;split
 ·rename_i h;rw[Bool.and_eq_true]at h;exact Mn (Nat.le_trans (L1 l x y) (fP h.1)) (Nv h.1 x y) (by have:=KA l x y;have:=mY h.1;omega)
 ·exact Lr
theorem JG {s t:List Rw}{r:Rw}(h:r∈d8 s t):∃x∈s,∃y∈t,x.1.1.1=y.1.1.1/\r=(ED x.1 y.1,x.2*y.2):=by
 unfold d8 at h;obtain⟨x,hx,h⟩:=gZ.1 h;obtain⟨y,a,rfl⟩:=fD.1 h;obtain⟨a,e⟩:=fH.1 a;exact⟨x,hx,y,a,by simpa using e,rfl⟩
theorem xD (s t:List Rw):(d8 s t).length<=s.length*t.length:=by
 induction s with
 | nil=>simp[d8]
 | cons x s ih=>
  show (jH x t++d8 s t).length<=_
  rw[lI,mF,Nat.add_mul];have:(jH x t).length<=t.length:=by unfold jH;rw[kR];exact fV _ _
  omega
theorem LH (x:Rw)(t:List Rw):aM (jH x t)<=(x.2.natAbs:Int)*aM t:=by
 induction t with
 | nil=>simp[jH,aM]
 | cons y t ih=>
  unfold jH at ih ⊢;rw[gY];have hp:(0:Int)<=(x.2.natAbs:Int)*(y.2.natAbs:Int):=Int.mul_nonneg (by omega) (by omega)
  by_cases h:x.1.1.1=y.1.1.1
  ·simp only[h,decide_true,if_true,iC,aM];rw[<- h,Int.mul_add,Int.natAbs_mul];have:((x.2.natAbs*y.2.natAbs:Nat):Int)=(x.2.natAbs:Int)*(y.2.natAbs:Int):=by simp
   omega
  ·rw[if_neg (by simpa using h)];simp only[aM,Int.mul_add];omega
theorem JE (s t:List Rw):aM (d8 s t)<=aM s*aM t:=by
 induction s with
 | nil=>simp[d8,aM]
 | cons x s ih=>
  show aM (jH x t++d8 s t)<=_
  rw[gJ];have:=LH x t;simp only[aM,Int.add_mul];omega
theorem zJ {s t:List Rw}{c d:Int}(h1:aM s<=c)(h2:aM t<=d):aM (d8 s t)<=c*d:=by
 have h3:=JE s t;have h4:aM s*aM t<=c*aM t:=Int.mul_le_mul_of_nonneg_right h1 (nE t);have h5:c*aM t<=c*d:=Int.mul_le_mul_of_nonneg_left h2 (Int.le_trans (nE s) h1);omega
theorem Iu {s t:List Rw}(hs:aR s=true)(A:aR t=true):∀r∈d8 s t,mM r.1.1/\bH r.1.2.1 r.1.2.2=true:=fun r hr=>by
 obtain⟨x,hx,y,w,_,rfl⟩:=JG hr;have a:=eY hs hx;have g:=eY A w;obtain⟨h1,h2,_⟩:=BY a;exact⟨⟨h1,h2,by simp only[ED,pv];omega,by simp only[ED,pv];omega⟩,yM (qY a) (qY g)⟩
theorem Lk (r:Rw)(l:List Rw)(x y:Int):cX (r::l) x y=if cV r.1.2.1 r.1.2.2 x y then (r.1.1,r.2)::cX l x y else cX l x y:=by
 unfold cX;rw[gY];split<;>rfl
theorem Ia (l m:List Rw)(x y:Int):cX (l++m) x y=cX l x y++cX m x y:=by simp[cX]
def lM (kind:Int)(s:List It)(k:Int):List It:=if kind=1 then kC s k else if kind=2 then (bW s).filter fun r=>decide (r.1.1=k) else gM s k
def dE (kind:Int)(s:List It):List It:=if kind=1 then jR s else if kind=2 then lO s else jE s
theorem Ad (kind:Int){s:List It}(h:d6 s=true):dE kind s=lM kind s 0++lM kind s 1++lM kind s 2++lM kind s 3:=by
 unfold dE lM
 by_cases h1:kind=1
 ·simp only[h1,if_true];exact AY h
 ·by_cases h2:kind=2
  ·subst h2;simp only[if_true];rw[if_neg (by omega),if_neg (by omega),if_neg (by omega),if_neg (by omega),if_neg (by omega),sM h];exact (Gi (uZ (uE h)) (CU h)).symm
  ·simp only[if_neg h1,if_neg h2];exact Ac h
theorem CH {s:List It}{r:It}(h:r∈lM kind s k):r.1.1=k/\r.2=1:=by
 unfold lM at h
 split at h
 ·rw[(vG h).1];exact⟨rfl,rfl⟩
 ·split at h
  ·obtain⟨h1,h2⟩:=fH.1 h;exact⟨by simpa using h2,(uW.1 h1).1⟩
  ·unfold gM at h;obtain⟨h1,h2⟩:=fH.1 (List.mem_of_mem_take h);exact⟨by simpa using h2,(uW.1 h1).1⟩
theorem H9 {s:List It}{j:Int}(h:∀r∈s,r.1.1=k)(a:j≠k):bU s j=0:=by
 unfold bU
 induction s with
 | nil=>rfl
 | cons r s ih=>
  rw[rV,ih (fun q hq=>h q (by simp[hq])),if_neg (by rw[h r (by simp)];exact fun e=>a e.symm)];simp
theorem FE {s:List It}{j:Int}(h:∀r∈s,r.1.1=k)(a:j≠k):lM kind s j=[]:=by
 have h1:(bW s).filter (fun r=>decide (r.1.1=j))=[]:=by
  rw[kX];intro r hr e;obtain⟨_,q,hq,_,g⟩:=uW.1 hr;have:=h q hq;rw[g]at this;exact a (by simpa using (by simpa using e:r.1.1=j).symm.trans this)
 unfold lM
 split
 ·unfold kC;rw[H9 h a,if_pos rfl]
 ·split
  ·exact h1
  ·unfold gM;rw[h1];rfl
theorem Dx (kind:Int){s:List It}(h:d6 s=true)(a:∀r∈s,r.1.1=k)(h0:0<=k)(h3:k<=3):dE kind s=lM kind s k:=by
 rw[Ad kind h];have o:∀j:Int,j≠k->lM kind s j=[]:=fun j g=>FE a g;obtain rfl|rfl|rfl|rfl:k=0\/k=1\/k=2\/k=3:=by omega
 ·rw[o 1 (by omega),o 2 (by omega),o 3 (by omega)];simp
 ·rw[o 0 (by omega),o 2 (by omega),o 3 (by omega)];simp
 ·rw[o 0 (by omega),o 1 (by omega),o 3 (by omega)];simp
 ·rw[o 0 (by omega),o 1 (by omega),o 2 (by omega)];simp
theorem Kp (kind:Int):dE kind []=[]:=by
 unfold dE
 split
 ·rfl
 ·split<;>rfl
theorem r6 (kind:Int){s:List It}(h:d6 s=true):d6 (dE kind s)=true:=by
 unfold dE
 split
 ·refine AX (by have:=Gj s;omega) (fun r hr=>?_) (EF (IY s));obtain⟨h1,_,h3,h4,h5⟩:=GL hr;exact Hc ⟨h4,h5,by omega,by omega,by omega,by omega,by omega⟩
 ·split
  ·rw[sM h];exact AJ h
  ·exact Gx h
theorem xA {s:List It}{r:It}(h:d6 s=true)(hr:r∈dE kind s):r.2=1:=by
 rw[Ad kind h]at hr;simp only[jU]at hr
 rcases hr with ((hr|hr)|hr)|hr<;>exact (CH hr).2
def iX (g:Int×Int->Int):LI->Int
 | []=>0
 | t::l=>g t+iX g l
theorem tP (g:Int×Int->Int)(l m:LI):iX g (l++m)=iX g l+iX g m:=by
 induction l with
 | nil=>simp[iX]
 | cons t l ih=>simp only[List.cons_append,iX,ih];omega
theorem Ho {g h:Int×Int->Int}{l:LI}(e:∀t∈l,g t=h t):iX g l=iX h l:=by
 induction l with
 | nil=>rfl
 | cons t l ih=>simp only[iX];rw[e t (by simp),ih (fun q hq=>e q (by simp[hq]))]
theorem F3 (g:Int×Int->Int)(p:Int×Int->Bool)(l:LI):iX g (l.filter p)=iX (fun t=>if p t then g t else 0) l:=by
 induction l with
 | nil=>rfl
 | cons t l ih=>
  rw[gY]
  by_cases h:p t=true
  ·simp only[h,if_true,iX,ih]
  ·rw[if_neg h,ih,iX,if_neg h];simp
theorem Jh {g:Int×Int->Int}{l:LI}(e:∀t∈l,g t=0):iX g l=0:=by
 induction l with
 | nil=>rfl
 | cons t l ih=>simp only[iX];rw[e t (by simp),ih (fun q hq=>e q (by simp[hq]))];rfl
def eD (a m:Nat):LI:=(nU m).map fun b=>((a:Int),((b:Nat):Int))
def gX (n:Nat):LI:=(nU n).flatMap fun a=>eD a 8
def vD:LI:=gX 8
theorem Dg :t∈vD↔bH t.1 t.2=true:=by
 rw[eL];unfold vD gX eD;simp only[gZ,fD,List.mem_range];constructor
 ·rintro⟨a,ha,b,g,rfl⟩;simp only;omega
 ·rintro⟨h1,h2,h3,h4⟩;exact⟨t.1.toNat,by omega,t.2.toNat,by omega,Prod.ext (by simp only;omega) (by simp only;omega)⟩
theorem LB:vD.Pairwise fun p q=>cO p q=true:=by decide
theorem L6:vD.length=64:=by decide
section
variable {E:Int->Int->Int}(h0:∀x y,bH x y=false->E x y=0){X Y:Int}(hX:bH X Y=true)
include h0 hX
theorem KG (a:Nat)(ha:a<8)(m:Nat)(hm:m<=8):
  iX (fun t=>if cV t.1 t.2 X Y then E t.1 t.2-E (t.1-1) t.2-E t.1 (t.2-1)+E (t.1-1) (t.2-1) else 0) (eD a m) =
   if (a:Int)<=X then E a (min ((m:Int)-1) Y)-E (a-1) (min ((m:Int)-1) Y) else 0:=by
 rw[eL]at hX
 induction m with
 | zero=>
  have e:min (((0:Nat):Int)-1) Y = -1:=by omega
  rw[e,h0 _ (-1) (by simp[bH]),h0 _ (-1) (by simp[bH])];simp[eD,iX]
 | succ m ih=>
  have e:eD a (m+1)=eD a m++[((a:Int),(m:Int))]:=by unfold eD;rw[mJ,List.map_append];rfl
  rw[e,tP,ih (by omega)];simp only[iX];have hl:cV (a:Int) (m:Int) X Y=decide ((a:Int)<=X/\(m:Int)<=Y):=by
   rw[oO,fR,eL,eL,decide_eq_true_eq];omega
  rw[hl]
  by_cases h1:(a:Int)<=X
  ·by_cases h2:(m:Int)<=Y
   ·have s:min ((m:Int)-1) Y=(m:Int)-1:=by omega
    have g:min (((m+1:Nat):Int)-1) Y=(m:Int):=by omega
    rw[s,g];simp only[h1,h2,and_self,decide_true,if_true];omega
   ·have s:min ((m:Int)-1) Y=Y:=by omega
    have g:min (((m+1:Nat):Int)-1) Y=Y:=by omega
    rw[s,g];simp only[h1,h2,and_false,decide_false,if_true,qA,if_false];omega
  ·simp only[h1,false_and,decide_false,qA,if_false];omega
theorem Lw (n:Nat)(hn:n<=8):
  iX (fun t=>if cV t.1 t.2 X Y then E t.1 t.2-E (t.1-1) t.2-E t.1 (t.2-1)+E (t.1-1) (t.2-1) else 0) (gX n)=E (min ((n:Int)-1) X) Y:=by
 have w:=eL.1 hX
 induction n with
 | zero=>
  have e:min (((0:Nat):Int)-1) X = -1:=by omega
  rw[e,h0 (-1) _ (by simp[bH])];simp[gX,iX]
 | succ n ih=>
  have e:gX (n+1)=gX n++eD n 8:=by unfold gX;rw[mJ,List.flatMap_append];simp
  rw[e,tP,ih (by omega),KG h0 hX n (by omega) 8 (by omega)];have s:min (((8:Nat):Int)-1) Y=Y:=by omega
  rw[s]
  by_cases h1:(n:Int)<=X
  ·have g:min ((n:Int)-1) X=(n:Int)-1:=by omega
   have a:min (((n+1:Nat):Int)-1) X=(n:Int):=by omega
   rw[g,a,if_pos h1];omega
  ·have g:min ((n:Int)-1) X=X:=by omega
   have a:min (((n+1:Nat):Int)-1) X=X:=by omega
   rw[g,a,if_neg h1];omega
theorem OR:iX (fun t=>if cV t.1 t.2 X Y then E t.1 t.2-E (t.1-1) t.2-E t.1 (t.2-1)+E (t.1-1) (t.2-1) else 0) vD=E X Y:=by
 have:=Lw h0 hX 8 (by omega);have a:=eL.1 hX;have e:min (((8:Nat):Int)-1) X=X:=by omega
 rw[e]at this;exact this
end
def Ai (l:List Rw)(t:Int×Int):Bool:=l.any fun p=>l.any fun q=>decide ((max p.1.2.1 q.1.2.1,max p.1.2.2 q.1.2.2)=t)
def jT (l:List Rw):LI:=vD.filter (Ai l)
theorem qX {l:List Rw}:Ai l t=true↔∃p∈l,∃q∈l,max p.1.2.1 q.1.2.1=t.1/\max p.1.2.2 q.1.2.2=t.2:=by
 unfold Ai;simp only[List.any_eq_true,decide_eq_true_eq,Prod.ext_iff]
theorem k6 {l:List Rw}:t∈jT l↔bH t.1 t.2=true/\Ai l t=true:=by
 unfold jT;rw[fH,Dg]
theorem qL (l:List Rw):(jT l).Pairwise fun p q=>cO p q=true:=LB.filter _
theorem mG (l:List Rw):(jT l).length<=64:=by
 have:=fV (Ai l) vD;rw[L6]at this;exact this
theorem lS (l:List Rw)(h:bH x y=false):bL l x y=[]:=by simp[bL,h]
theorem G7 {l:List Rw}(h:∀r∈l,cV r.1.2.1 r.1.2.2 x y=false):cX l x y=[]:=by
 unfold cX;rw[kX.2 (fun r hr=>by rw[h r hr];simp)];rfl
theorem Fl {l:List Rw}(h:aR l=true)(hx:bH x y=true)(hn:∀r∈l,cV r.1.2.1 r.1.2.2 x y=true->r.1.2.1≠x):bL l (x-1) y=bL l x y:=by
 have g:=eL.1 hx
 by_cases h1:x=0
 ·rw[lS l (by subst h1;simp[bH]),kS h hx,G7,show aP cO ([]:List It)=[] from rfl];intro r hr;rw[oJ];intro e;have:=hn r hr e;rw[fR,eL]at e;omega
 ·have a:bH (x-1) y=true:=by rw[eL];omega
  rw[kS h hx,kS h a]
  congr 1
  unfold cX
  congr 1
  refine lY fun r hr=>?_;rw[oO];constructor
  ·intro e;rw[fR,eL]at e ⊢;exact⟨e.1,hx,by omega,e.2.2.2⟩
  ·intro e;have:=hn r hr e;rw[fR]at e ⊢;exact⟨e.1,a,by omega,e.2.2.2⟩
theorem GE {l:List Rw}(h:aR l=true)(hx:bH x y=true)(hn:∀r∈l,cV r.1.2.1 r.1.2.2 x y=true->r.1.2.2≠y):bL l x (y-1)=bL l x y:=by
 have g:=eL.1 hx
 by_cases h1:y=0
 ·rw[lS l (by subst h1;simp[bH]),kS h hx,G7,show aP cO ([]:List It)=[] from rfl];intro r hr;rw[oJ];intro e;have:=hn r hr e;rw[fR,eL]at e;omega
 ·have a:bH x (y-1)=true:=by rw[eL];omega
  rw[kS h hx,kS h a]
  congr 1
  unfold cX
  congr 1
  refine lY fun r hr=>?_;rw[oO];constructor
  ·intro e;rw[fR,eL]at e ⊢;exact⟨e.1,hx,by omega,by omega⟩
  ·intro e;have:=hn r hr e;rw[fR]at e ⊢;exact⟨e.1,a,by omega,by omega⟩
def eZ (kind:Int)(l:List Rw)(t:Int×Int):List It:=
 aP cO (dE kind (bL l t.1 t.2)++i8 (dE kind (bL l (t.1-1) t.2))++i8 (dE kind (bL l t.1 (t.2-1)))++dE kind (bL l (t.1-1) (t.2-1)))
theorem yU (kind:Int)(l:List Rw)(t:Int×Int)(v:Int×Int):aU (eZ kind l t) v =
  aU (dE kind (bL l t.1 t.2)) v-aU (dE kind (bL l (t.1-1) t.2)) v-aU (dE kind (bL l t.1 (t.2-1))) v+aU (dE kind (bL l (t.1-1) (t.2-1))) v:=by
 unfold eZ;rw[oY eI,iQ,iQ,iQ,Dy,Dy];omega
theorem KP (kind:Int){l:List Rw}(h:aR l=true)(g:bH t.1 t.2=true)(A:Ai l t=false)(v:Int×Int):aU (eZ kind l t) v=0:=by
 rw[yU];have F:=eL.1 g
 by_cases ha:∃p∈l,cV p.1.2.1 p.1.2.2 t.1 t.2=true/\p.1.2.1=t.1
 ·have s:∀r∈l,cV r.1.2.1 r.1.2.2 t.1 t.2=true->r.1.2.2≠t.2:=fun q hq w B=>by
   obtain⟨p,hp,D,G⟩:=ha;have:Ai l t=true:=by
    rw[qX];rw[fR]at w D;exact⟨p,hp,q,hq,by omega,by omega⟩
   rw[this]at A;cases A
  rw[GE h g s]
  by_cases h1:t.1=0
  ·rw[lS l (x:=t.1-1) (y:=t.2) (by simp[bH];omega),lS l (x:=t.1-1) (y:=t.2-1) (by simp[bH];omega)];omega
  ·have a:bH (t.1-1) t.2=true:=by rw[eL];omega
   rw[GE h a (fun r hr e=>s r hr (by rw[fR]at e ⊢;exact⟨e.1,g,by omega,e.2.2.2⟩))];omega
 ·have s:∀r∈l,cV r.1.2.1 r.1.2.2 t.1 t.2=true->r.1.2.1≠t.1:=fun r hr w B=>ha ⟨r,hr,w,B⟩;rw[Fl h g s]
  by_cases h1:t.2=0
  ·rw[lS l (x:=t.1) (y:=t.2-1) (by simp[bH];omega),lS l (x:=t.1-1) (y:=t.2-1) (by simp[bH];omega)];omega
  ·have a:bH t.1 (t.2-1)=true:=by rw[eL];omega
   rw[Fl h a (fun r hr e=>s r hr (by rw[fR]at e ⊢;exact⟨e.1,g,e.2.2.1,by omega⟩))];omega
def dZ (kind:Int)(l:List Rw)(ts:LI):List Rw:=ts.flatMap fun t=>(eZ kind l t).map fun r=>((r.1,t),r.2)
def eX (kind:Int)(l:List Rw):List Rw:=dZ kind l (jT l)
theorem MT (m:List It)(t:Int×Int)(x y:Int):cX (m.map fun r=>((r.1,t),r.2)) x y=if cV t.1 t.2 x y then m else []:=by
 induction m with
 | nil=>simp[cX]
 | cons r m ih=>
  rw[iC,Lk,ih]
  by_cases h:cV t.1 t.2 x y=true<;>simp[h]
theorem Ka (kind:Int)(l:List Rw)(ts:LI)(x y:Int)(v:Int×Int):aU (cX (dZ kind l ts) x y) v=iX (fun t=>if cV t.1 t.2 x y then aU (eZ kind l t) v else 0) ts:=by
 induction ts with
 | nil=>rfl
 | cons t ts ih=>
  show aU (cX (_++dZ kind l ts) x y) v=_
  rw[Ia,iQ,ih,MT];simp only[iX]
  by_cases h:cV t.1 t.2 x y=true<;>simp[h,aU]
theorem LS (kind:Int){l:List Rw}(h:aR l=true){X Y:Int}(hX:bH X Y=true)(v:Int×Int):
  iX (fun t=>if cV t.1 t.2 X Y then aU (eZ kind l t) v else 0) (jT l)=aU (dE kind (bL l X Y)) v:=by
 have h1:=OR (E:=fun x y=>aU (dE kind (bL l x y)) v) (fun x y e=>by show aU (dE kind (bL l x y)) v=0;rw[lS l e,Kp];rfl) hX;rw[<- h1];unfold jT;rw[F3];refine Ho fun t a=>?_;have g:=Dg.1 a;cases s:Ai l t
 ·have:=KP kind h g s v;rw[yU]at this;rw[this];simp
 ·simp only[if_true];rw[yU]
theorem KR (kind:Int){l:List Rw}(h:aR l=true){i:Nat}(a:(jT l)[i]?=some t)(v:Int×Int):
  aU (dE kind (bL l t.1 t.2)) v-aU (cX (dZ kind l ((jT l).take i)) t.1 t.2) v=aU (eZ kind l t) v:=by
 obtain⟨hi,e⟩:=List.getElem?_eq_some_iff.1 a;have g:=(k6.1 (List.mem_of_getElem? a)).1;have hs:(jT l).take i++t::(jT l).drop (i+1)=jT l:=by
  rw[<- e,<-List.drop_eq_getElem_cons hi,List.take_append_drop]
 have h1:=LS kind h g v;rw[<- hs,tP]at h1;simp only[iX]at h1;have h2:iX (fun s=>if cV s.1 s.2 t.1 t.2 then aU (eZ kind l s) v else 0) ((jT l).drop (i+1))=0:=Jh fun s hs'=>by
  have hp:=qL l;rw[<- hs,List.pairwise_append]at hp;have h3:=(List.pairwise_cons.1 hp.2.1).1 s hs';have:cV s.1 s.2 t.1 t.2=false:=by
   rw[oJ];intro w;rw[fR]at w;simp only[cO,decide_eq_true_eq]at h3;omega
  rw[this];simp
 rw[h2,DK,g]at h1;simp only[if_true]at h1;rw[Ka];omega
theorem ET (kind:Int){l:List Rw}(h:aR l=true){i:Nat}(a:(jT l)[i]?=some t){L:List It}(g:∀v,aU L v=aU (dE kind (bL l t.1 t.2)) v-aU (cX (dZ kind l ((jT l).take i)) t.1 t.2) v):aP cO L=eZ kind l t:=by
 have h1:eZ kind l t=aP cO (eZ kind l t):=(Bw eI (kH eI _) (p7 cO _)).symm;rw[h1];exact vJ eI fun v=>by rw[g,KR kind h a]
def aV (l:List Rw)(k:Int):List Rw:=l.filter fun r=>decide (r.1.1.1=k)
def fT (kind:Int)(a:List Rw):List Rw:=eX kind (aV a 0)++eX kind (aV a 1)++eX kind (aV a 2)++eX kind (aV a 3)
def qU (a:List Rw)(key:Int):LI:=if aR a then jT (aV a key) else []
theorem JR (kind:Int){s:List It}(h:d6 s=true)(v:Int×Int):(aU (dE kind s) v=1/\∃r∈dE kind s,r.1=v)\/aU (dE kind s) v=0:=by
 by_cases a:∃r∈dE kind s,r.1=v
 ·obtain⟨r,hr,e⟩:=a
  left
  refine⟨?_,r,hr,e⟩;have:=qW eI (uE (r6 kind h)) hr;rw[<- e,this,xA h hr]
 ·exact .inr (lD fun r hr e=>a ⟨r,hr,e⟩)
theorem Lh {l:List Rw}{ts:LI}(A:∀t∈ts,bH t.1 t.2=true){r:Rw}(hr:r∈dZ kind l ts):mM r.1.1/\bH r.1.2.1 r.1.2.2=true/\r.1.2∈ts:=by
 unfold dZ at hr;obtain⟨t,s,hr⟩:=gZ.1 hr;obtain⟨q,hq,rfl⟩:=fD.1 hr;refine⟨?_,A t s,s⟩;obtain⟨p,hp,e⟩:=oR hq;have g:∀x y,∀p∈dE kind (bL l x y),mM p.1:=fun x y p hp=>Gc (r6 kind (gQ l x y)) p hp;have:mM p.1:=by
  simp only[jU]at hp
  rcases hp with ((hp|hp)|hp)|hp
  ·exact g _ _ p hp
  ·obtain⟨w,a,rfl⟩:=fD.1 hp;exact g _ _ w a
  ·obtain⟨w,a,rfl⟩:=fD.1 hp;exact g _ _ w a
  ·exact g _ _ p hp
 rw[e]at this;exact this
theorem LV (l:List Rw):∀t∈jT l,bH t.1 t.2=true:=fun _ h=>(k6.1 h).1
theorem MF {l:List Rw}(h0:0<=k)(h3:k<=3)(B:∀r∈l,r.1.1.1=k){r:Rw}(hr:r∈eX kind l):r.1.1.1=k:=by
 unfold eX dZ at hr;obtain⟨t,D,hr⟩:=gZ.1 hr;obtain⟨q,hq,rfl⟩:=fD.1 hr;obtain⟨p,hp,e⟩:=oR hq;have w:∀x y,∀p∈bL l x y,p.1.1=k:=fun x y p hp=>by
  unfold bL at hp;split at hp
  ·obtain⟨q,hq,e⟩:=oR hp;unfold cX at hq;obtain⟨A,s,rfl⟩:=fD.1 hq;rw[<- e];exact B A (fH.1 s).1
  ·simp at hp
 have hs:∀x y,∀p∈dE kind (bL l x y),p.1.1=k:=fun x y p hp=>by
  rw[Dx kind (gQ l x y) (w x y) h0 h3]at hp;exact (CH hp).1
 have:p.1.1=k:=by
  simp only[jU]at hp
  rcases hp with ((hp|hp)|hp)|hp
  ·exact hs _ _ p hp
  ·obtain⟨g,a,rfl⟩:=fD.1 hp;exact hs _ _ g a
  ·obtain⟨g,a,rfl⟩:=fD.1 hp;exact hs _ _ g a
  ·exact hs _ _ p hp
 rw[e]at this;exact this
theorem N3 {A B:Type}{f:A->List B}{c:Nat}(h:∀x,(f x).length<=c)(l:List A):(l.flatMap f).length<=c*l.length:=by
 induction l with
 | nil=>simp
 | cons x l ih=>
  have:=h x;rw[List.flatMap_cons,lI,mF,Nat.mul_add];omega
end Go.Proofs.YtbdpcngcbnoioaaGreatDoor
