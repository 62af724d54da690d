import Derived.Test.YtbdpcngcbnoioaaGreatDoorGtX
import Derived.Test.YtbdpcngcbnoioaaGreatDoorGd3
namespace Go.Proofs.YtbdpcngcbnoioaaGreatDoor
open _root_.List renaming mem_filter->fM,filter_cons->fQ,mem_map->gD,length_filter_le->gM,map_cons->gQ,mem_flatMap->gX,mem_append->iM,length_map->iP,filter_eq_nil_iff->jB,length_append->jO,filter_filter->mO,filter_congr->nA,length_cons->nB,range_succ->nT,range->nX
open _root_.Bool renaming false_eq_true->oU,eq_iff_iff->oW,eq_false_iff->pU,and_eq_true->qV
variable {k kind:Int}{t:Int×Int}
def cJ (how:Int)(l:List Rw):List Rw:=(l.filter fun r=>cR how r.1.1).map fun r=>((bC how r.1.1,r.1.2),r.2)
def yK (s t:Sp):Sp:=((s.1.1,pv s.1.2 t.1.2),(k9 s.2.1 s.2.2 t.2.1 t.2.2,kA s.2.1 s.2.2 t.2.1 t.2.2))
def iI (x:Rw)(t:List Rw):List Rw:=(t.filter fun y=>decide (x.1.1.1=y.1.1.1)).map fun y=>(yK x.1 y.1,x.2*y.2)
def cY (s t:List Rw):List Rw:=s.flatMap fun x=>iI x t
theorem qX (a:Int)(l:List Rw):(cJ a l).length<=l.length:=by
 unfold cJ;rw[iP];exact gM _ _
theorem D4 (a:Int)(l:List Rw):aJ (cJ a l)<=aJ l:=by
 induction l with
 | nil=>simp[cJ]
 | cons r l ih=>
  unfold cJ at ih ⊢;rw[fQ]
  by_cases h:cR a r.1.1=true
  ·simp only[h,if_true,gQ,aJ];omega
  ·rw[if_neg h];simp only[aJ];omega
theorem CP {r:Rw}(h:dG r=true):jK r.1.1:=by
 obtain⟨h1,h2,_⟩:=NP h;simp only[cG,decide_eq_true_eq]at h1 h2;exact⟨h1.1,h1.2,h2.1,h2.2⟩
theorem KX {s:Sp}(h:jK s.1)(a:bM s.2.1 s.2.2=true):cG s.1.1 0 3=true/\cG s.1.2 0 99=true/\bM s.2.1 s.2.2=true:=by
 obtain⟨h1,h2,h3,h4⟩:=h;exact⟨by simp[cG];omega,by simp[cG];omega,a⟩
theorem Jy {a:Int}{l:List Rw}(h:aZ l=true):∀r∈cJ a l,jK r.1.1/\bM r.1.2.1 r.1.2.2=true:=fun r hr=>by
 unfold cJ at hr;obtain⟨q,hq,rfl⟩:=gD.1 hr;have g:=eZ h (fM.1 hq).1;exact⟨uS (CP g),pO (r:=q) g⟩
theorem Jz {a:Int}{l:List Rw}(h:aZ l=true):aZ (cJ a l)=true:=by
 refine vT (Nat.le_trans (qX a l) (i6 h)) fun r hr=>?_;obtain⟨h1,h2⟩:=Jy h r hr;obtain⟨B,A,s⟩:=KX h1 h2;unfold cJ at hr;obtain⟨q,hq,rfl⟩:=gD.1 hr;have D:=mG (eZ h (fM.1 hq).1);have g:cG q.2 (-99999) 99999=true:=by simp[cG];omega
 simp only[dG,B,A,s,g,Bool.and_self]
theorem O9 (a:Int)(l:List Rw)(x y:Int):c9 (cJ a l) x y=aP a (c9 l x y):=by
 unfold c9 cJ aP
 induction l with
 | nil=>rfl
 | cons r l ih=>
  cases h1:cR a r.1.1<;>cases h2:cX r.1.2.1 r.1.2.2 x y<;>simp[h1,h2,ih]
theorem At (l:List Rw)(x y:Int):aO bJ (c9 (aO aW l) x y)=aO bJ (c9 l x y):=
 lD cQ fun a=>by rw[Ji,Ji,uQ fG]
theorem EP (l:List Rw)(x y:Int):aJ (c9 l x y)<=aJ l:=by
 induction l with
 | nil=>simp[c9,aJ]
 | cons r l ih=>
  unfold c9 at ih ⊢;rw[fQ]
  by_cases h:cX r.1.2.1 r.1.2.2 x y=true
  ·simp only[h,if_true,gQ,aJ];omega
  ·rw[if_neg h];simp only[aJ];omega
theorem M9 (l:List Rw)(x y:Int):(c9 l x y).length<=l.length:=by
 unfold c9;rw[iP];exact gM _ _
theorem oY {l:List Rw}(h:aZ l=true):aJ l<=39999600:=by
 have h1:=mP (l:=l) (c:=99999) fun r hr=>mG (eZ h hr);have h2:=i6 h;have:(99999:Int)*l.length<=39999600:=by omega
 omega
theorem Qy {l:List Rw}(h:aZ l=true)(x y:Int):∀r∈c9 l x y,jK r.1:=fun r hr=>by
 unfold c9 at hr;obtain⟨q,hq,rfl⟩:=gD.1 hr;exact CP (eZ h (fM.1 hq).1)
theorem cO (l:List Rw)(x y:Int):aX (aM l x y)=true:=by
 unfold aM;split
 ·rename_i h;rw[qV]at h;exact PZ (Nat.le_trans (M9 l x y) (i6 h.1)) (Qy h.1 x y) (by have:=EP l x y;have:=oY h.1;omega)
 ·exact CR
theorem KU {l:List Rw}(x y:Int):aJ (aM l x y)<=aJ l:=by
 unfold aM;split
 ·exact Int.le_trans (xL _) (EP l x y)
 ·exact eN l
theorem Ky {s t:List Rw}{r:Rw}(h:r∈cY s t):∃x∈s,∃y∈t,x.1.1.1=y.1.1.1/\r=(yK x.1 y.1,x.2*y.2):=by
 unfold cY at h;obtain⟨x,hx,h⟩:=gX.1 h;obtain⟨y,a,rfl⟩:=gD.1 h;obtain⟨a,e⟩:=fM.1 a;exact⟨x,hx,y,a,by simpa using e,rfl⟩
theorem yT (s t:List Rw):(cY s t).length<=s.length*t.length:=by
 induction s with
 | nil=>simp[cY]
 | cons x s ih=>
  show (iI x t++cY s t).length<=_
  rw[jO,nB,Nat.add_mul];have:(iI x t).length<=t.length:=by unfold iI;rw[iP];exact gM _ _
  omega
theorem NL (x:Rw)(t:List Rw):aJ (iI x t)<=(x.2.natAbs:Int)*aJ t:=by
 induction t with
 | nil=>simp[iI,aJ]
 | cons y t ih=>
  unfold iI at ih ⊢;rw[fQ];have hp:(0:Int)<=(x.2.natAbs:Int)*(y.2.natAbs:Int):=Int.mul_nonneg (by omega) (by omega)
  by_cases h:x.1.1.1=y.1.1.1
  ·simp only[h,decide_true,if_true,gQ,aJ];rw[<- h,Int.mul_add,Int.natAbs_mul];have:((x.2.natAbs*y.2.natAbs:Nat):Int)=(x.2.natAbs:Int)*(y.2.natAbs:Int):=by simp
   omega
  ·rw[if_neg (by simpa using h)];simp only[aJ,Int.mul_add];omega
theorem Ku (s t:List Rw):aJ (cY s t)<=aJ s*aJ t:=by
 induction s with
 | nil=>simp[cY,aJ]
 | cons x s ih=>
  show aJ (iI x t++cY s t)<=_
  rw[cV];have:=NL x t;simp only[aJ,Int.add_mul];omega
theorem AF {s t:List Rw}{c d:Int}(h1:aJ s<=c)(h2:aJ t<=d):aJ (cY s t)<=c*d:=by
 have h3:=Ku s t;have h4:aJ s*aJ t<=c*aJ t:=Int.mul_le_mul_of_nonneg_right h1 (eN t);have h5:c*aJ t<=c*d:=Int.mul_le_mul_of_nonneg_left h2 (Int.le_trans (eN s) h1);omega
theorem Kw {s t:List Rw}(hs:aZ s=true)(B:aZ t=true):∀r∈cY s t,jK r.1.1/\bM r.1.2.1 r.1.2.2=true:=fun r hr=>by
 obtain⟨x,hx,y,A,_,rfl⟩:=Ky hr;have a:=eZ hs hx;have g:=eZ B A;obtain⟨h1,h2,_⟩:=CP a;exact⟨⟨h1,h2,by simp only[yK,pv];omega,by simp only[yK,pv];omega⟩,Ik (pO a) (pO g)⟩
theorem RB {a b c d x y:Int}(h:bM a b=true)(g:bM c d=true):cX (k9 a b c d) (kA a b c d) x y=(cX a b x y&&cX c d x y):=by
 obtain⟨A,s⟩:=Nr h g;rw[oW,qV,gY,gY,gY];constructor
 ·rintro⟨_,h2,h3,h4⟩;rw[A]at h3;rw[s]at h4;exact⟨⟨h,h2,by omega,by omega⟩,g,h2,by omega,by omega⟩
 ·rintro⟨⟨_,h2,h3,h4⟩,_,_,h5,h6⟩;exact⟨Ik h g,h2,by rw[A];omega,by rw[s];omega⟩
theorem yZ (r:Rw)(l:List Rw)(x y:Int):c9 (r::l) x y=if cX r.1.2.1 r.1.2.2 x y then (r.1.1,r.2)::c9 l x y else c9 l x y:=by
 unfold c9;rw[fQ];split<;>rfl
theorem LH (x y:Rw)(t:List Rw):iI x (y::t)=if x.1.1.1=y.1.1.1 then (yK x.1 y.1,x.2*y.2)::iI x t else iI x t:=by
 unfold iI;rw[fQ]
 by_cases h:x.1.1.1=y.1.1.1<;>simp[h]
theorem Ph {x:Rw}{t:List Rw}(hx:bM x.1.2.1 x.1.2.2=true)(a:∀r∈t,bM r.1.2.1 r.1.2.2=true)(X Y:Int):
  c9 (iI x t) X Y=if cX x.1.2.1 x.1.2.2 X Y then ((c9 t X Y).filter fun y=>decide (x.1.1.1=y.1.1)).map fun y=>((x.1.1.1,pv x.1.1.2 y.1.2),x.2*y.2) else []:=by
 induction t with
 | nil=>simp[iI,c9]
 | cons y t ih=>
  have ih:=ih (fun r hr=>a r (by simp[hr]));have e:=RB (x:=X) (y:=Y) hx (a y (by simp));rw[LH,yZ y]
  by_cases h1:x.1.1.1=y.1.1.1
  ·rw[if_pos h1,yZ,ih];have g:cX (yK x.1 y.1).2.1 (yK x.1 y.1).2.2 X Y=(cX x.1.2.1 x.1.2.2 X Y&&cX y.1.2.1 y.1.2.2 X Y):=e;rw[g];cases h2:cX x.1.2.1 x.1.2.2 X Y<;>cases h3:cX y.1.2.1 y.1.2.2 X Y<;>simp[h1,yK]
  ·rw[if_neg h1,ih];cases h2:cX x.1.2.1 x.1.2.2 X Y<;>cases h3:cX y.1.2.1 y.1.2.2 X Y<;>simp[h1]
theorem pE (l m:List Rw)(x y:Int):c9 (l++m) x y=c9 l x y++c9 m x y:=by simp[c9]
theorem OC {s t:List Rw}(hs:∀r∈s,bM r.1.2.1 r.1.2.2=true)(a:∀r∈t,bM r.1.2.1 r.1.2.2=true)(X Y:Int):c9 (cY s t) X Y=eY (c9 s X Y) (c9 t X Y):=by
 induction s with
 | nil=>rfl
 | cons x s ih=>
  show c9 (iI x t++cY s t) X Y=_
  rw[pE,ih (fun r hr=>hs r (by simp[hr])),Ph (hs x (by simp)) a];cases h2:cX x.1.2.1 x.1.2.2 X Y
  ·simp[c9,h2]
  ·simp only[if_true];have:c9 (x::s) X Y=(x.1.1,x.2)::c9 s X Y:=by simp[c9,h2]
   rw[this];rfl
def kP (kind:Int)(s:List It)(k:Int):List It:=if kind=1 then kC s k else if kind=2 then (bZ s).filter fun r=>decide (r.1.1=k) else hZ s k
def dE (kind:Int)(s:List It):List It:=if kind=1 then kH s else if kind=2 then mM s else jV s
theorem xK (kind:Int){s:List It}(h:aX s=true):dE kind s=kP kind s 0++kP kind s 1++kP kind s 2++kP kind s 3:=by
 unfold dE kP
 by_cases h1:kind=1
 ·simp only[h1,if_true];exact Aw h
 ·by_cases h2:kind=2
  ·subst h2;simp only[if_true];rw[if_neg (by omega),if_neg (by omega),if_neg (by omega),if_neg (by omega),if_neg (by omega),uH h];exact (JR (xF (qL h)) (DT h)).symm
  ·simp only[if_neg h1,if_neg h2];exact BN h
theorem DX {s:List It}{r:It}(h:r∈kP kind s k):r.1.1=k/\r.2=1:=by
 unfold kP at h
 split at h
 ·rw[(wF h).1];exact⟨rfl,rfl⟩
 ·split at h
  ·obtain⟨h1,h2⟩:=fM.1 h;exact⟨by simpa using h2,(xD.1 h1).1⟩
  ·unfold hZ at h;obtain⟨h1,h2⟩:=fM.1 (List.mem_of_mem_take h);exact⟨by simpa using h2,(xD.1 h1).1⟩
theorem GW (s:List It)(k:Int):bY (s.filter fun r=>decide (r.1.1=k)) k=bY s k:=by
 unfold bY
 induction s with
 | nil=>rfl
 | cons r s ih=>
  rw[fQ]
  by_cases h:r.1.1=k
  ·simp only[h,decide_true,if_true,fA,ih]
  ·simp only[h,decide_false,oU,if_false,fA,ih];omega
theorem AB (s:List It)(k:Int):bZ (s.filter fun r=>decide (r.1.1=k))=(bZ s).filter fun r=>decide (r.1.1=k):=by
 unfold bZ
 induction s with
 | nil=>rfl
 | cons r s ih=>
  by_cases h:r.1.1=k<;>by_cases a:0<r.2<;>simp only[fQ,h,a,decide_true,decide_false,oU,if_true,if_false,gQ,ih]
theorem L2 (kind:Int)(s:List It)(k:Int):kP kind (s.filter fun r=>decide (r.1.1=k)) k=kP kind s k:=by
 unfold kP
 split
 ·unfold kC;rw[GW]
 ·split
  ·rw[AB,mO];simp
  ·unfold hZ;rw[AB,mO];simp
theorem Io {s:List It}{j:Int}(h:∀r∈s,r.1.1=k)(a:j≠k):bY s j=0:=by
 unfold bY
 induction s with
 | nil=>rfl
 | cons r s ih=>
  rw[fA,ih (fun q hq=>h q (by simp[hq])),if_neg (by rw[h r (by simp)];exact fun e=>a e.symm)];simp
theorem Gu {s:List It}{j:Int}(h:∀r∈s,r.1.1=k)(a:j≠k):kP kind s j=[]:=by
 have h1:(bZ s).filter (fun r=>decide (r.1.1=j))=[]:=by
  rw[jB];intro r hr e;obtain⟨_,q,hq,_,g⟩:=xD.1 hr;have:=h q hq;rw[g]at this;exact a (by simpa using (by simpa using e:r.1.1=j).symm.trans this)
 unfold kP
 split
 ·unfold kC;rw[Io h a,if_pos rfl]
 ·split
  ·exact h1
  ·unfold hZ;rw[h1];rfl
theorem Al (kind:Int){s:List It}(h:aX s=true)(a:∀r∈s,r.1.1=k)(h0:0<=k)(h3:k<=3):dE kind s=kP kind s k:=by
 rw[xK kind h];have o:∀j:Int,j≠k->kP kind s j=[]:=fun j g=>Gu a g;obtain rfl|rfl|rfl|rfl:k=0\/k=1\/k=2\/k=3:=by omega
 ·rw[o 1 (by omega),o 2 (by omega),o 3 (by omega)];simp
 ·rw[o 0 (by omega),o 2 (by omega),o 3 (by omega)];simp
 ·rw[o 0 (by omega),o 1 (by omega),o 3 (by omega)];simp
 ·rw[o 0 (by omega),o 1 (by omega),o 2 (by omega)];simp
theorem Na (kind:Int):dE kind []=[]:=by
 unfold dE
 split
 ·rfl
 ·split<;>rfl
theorem p8 (kind:Int){s:List It}(h:aX s=true):aX (dE kind s)=true:=by
 unfold dE
 split
 ·refine yX (by have:=Av s;omega) (fun r hr=>?_) (G7 (Jw s));obtain⟨h1,_,h3,h4,h5⟩:=IW hr;exact EC ⟨h4,h5,by omega,by omega,by omega,by omega,by omega⟩
 ·split
  ·rw[uH h];exact Ad h
  ·exact J1 h
theorem uP {s:List It}{r:It}(h:aX s=true)(hr:r∈dE kind s):r.2=1:=by
 rw[xK kind h]at hr;simp only[iM]at hr
 rcases hr with ((hr|hr)|hr)|hr<;>exact (DX hr).2
def jI (g:Int×Int->Int):LI->Int
 | []=>0
 | t::l=>g t+jI g l
theorem vB (g:Int×Int->Int)(l m:LI):jI g (l++m)=jI g l+jI g m:=by
 induction l with
 | nil=>simp[jI]
 | cons t l ih=>simp only[List.cons_append,jI,ih];omega
theorem JW {g h:Int×Int->Int}{l:LI}(e:∀t∈l,g t=h t):jI g l=jI h l:=by
 induction l with
 | nil=>rfl
 | cons t l ih=>simp only[jI];rw[e t (by simp),ih (fun q hq=>e q (by simp[hq]))]
theorem H3 (g:Int×Int->Int)(p:Int×Int->Bool)(l:LI):jI g (l.filter p)=jI (fun t=>if p t then g t else 0) l:=by
 induction l with
 | nil=>rfl
 | cons t l ih=>
  rw[fQ]
  by_cases h:p t=true
  ·simp only[h,if_true,jI,ih]
  ·rw[if_neg h,ih,jI,if_neg h];simp
theorem Lf {g:Int×Int->Int}{l:LI}(e:∀t∈l,g t=0):jI g l=0:=by
 induction l with
 | nil=>rfl
 | cons t l ih=>simp only[jI];rw[e t (by simp),ih (fun q hq=>e q (by simp[hq]))];rfl
def fE (a m:Nat):LI:=(nX m).map fun b=>((a:Int),((b:Nat):Int))
def iK (n:Nat):LI:=(nX n).flatMap fun a=>fE a 8
def wJ:LI:=iK 8
theorem Es :t∈wJ↔bM t.1 t.2=true:=by
 rw[fH];unfold wJ iK fE;simp only[gX,gD,List.mem_range];constructor
 ·rintro⟨a,ha,b,g,rfl⟩;simp only;omega
 ·rintro⟨h1,h2,h3,h4⟩;exact⟨t.1.toNat,by omega,t.2.toNat,by omega,Prod.ext (by simp only;omega) (by simp only;omega)⟩
theorem MX:wJ.Pairwise fun p q=>bJ p q=true:=by decide
theorem MW:wJ.length=64:=by decide
section
variable {E:Int->Int->Int}(h0:∀x y,bM x y=false->E x y=0){X Y:Int}(hX:bM X Y=true)
include h0 hX
theorem Nh (a:Nat)(ha:a<8)(m:Nat)(hm:m<=8):
  jI (fun t=>if cX t.1 t.2 X Y then E t.1 t.2-E (t.1-1) t.2-E t.1 (t.2-1)+E (t.1-1) (t.2-1) else 0) (fE a m) =
   if (a:Int)<=X then E a (min ((m:Int)-1) Y)-E (a-1) (min ((m:Int)-1) Y) else 0:=by
 rw[fH]at hX
 induction m with
 | zero=>
  have e:min (((0:Nat):Int)-1) Y = -1:=by omega
  rw[e,h0 _ (-1) (by simp[bM]),h0 _ (-1) (by simp[bM])];simp[fE,jI]
 | succ m ih=>
  have e:fE a (m+1)=fE a m++[((a:Int),(m:Int))]:=by unfold fE;rw[nT,List.map_append];rfl
  rw[e,vB,ih (by omega)];simp only[jI];have hl:cX (a:Int) (m:Int) X Y=decide ((a:Int)<=X/\(m:Int)<=Y):=by
   rw[oW,gY,fH,fH,decide_eq_true_eq];omega
  rw[hl]
  by_cases h1:(a:Int)<=X
  ·by_cases h2:(m:Int)<=Y
   ·have s:min ((m:Int)-1) Y=(m:Int)-1:=by omega
    have g:min (((m+1:Nat):Int)-1) Y=(m:Int):=by omega
    rw[s,g];simp only[h1,h2,and_self,decide_true,if_true];omega
   ·have s:min ((m:Int)-1) Y=Y:=by omega
    have g:min (((m+1:Nat):Int)-1) Y=Y:=by omega
    rw[s,g];simp only[h1,h2,and_false,decide_false,if_true,oU,if_false];omega
  ·simp only[h1,false_and,decide_false,oU,if_false];omega
theorem Pa (n:Nat)(hn:n<=8):
  jI (fun t=>if cX t.1 t.2 X Y then E t.1 t.2-E (t.1-1) t.2-E t.1 (t.2-1)+E (t.1-1) (t.2-1) else 0) (iK n)=E (min ((n:Int)-1) X) Y:=by
 have A:=fH.1 hX
 induction n with
 | zero=>
  have e:min (((0:Nat):Int)-1) X = -1:=by omega
  rw[e,h0 (-1) _ (by simp[bM])];simp[iK,jI]
 | succ n ih=>
  have e:iK (n+1)=iK n++fE n 8:=by unfold iK;rw[nT,List.flatMap_append];simp
  rw[e,vB,ih (by omega),Nh h0 hX n (by omega) 8 (by omega)];have s:min (((8:Nat):Int)-1) Y=Y:=by omega
  rw[s]
  by_cases h1:(n:Int)<=X
  ·have g:min ((n:Int)-1) X=(n:Int)-1:=by omega
   have a:min (((n+1:Nat):Int)-1) X=(n:Int):=by omega
   rw[g,a,if_pos h1];omega
  ·have g:min ((n:Int)-1) X=X:=by omega
   have a:min (((n+1:Nat):Int)-1) X=X:=by omega
   rw[g,a,if_neg h1];omega
theorem Rc:jI (fun t=>if cX t.1 t.2 X Y then E t.1 t.2-E (t.1-1) t.2-E t.1 (t.2-1)+E (t.1-1) (t.2-1) else 0) wJ=E X Y:=by
 have:=Pa h0 hX 8 (by omega);have a:=fH.1 hX;have e:min (((8:Nat):Int)-1) X=X:=by omega
 rw[e]at this;exact this
end
def BE (l:List Rw)(t:Int×Int):Bool:=l.any fun p=>l.any fun q=>decide ((max p.1.2.1 q.1.2.1,max p.1.2.2 q.1.2.2)=t)
def jT (l:List Rw):LI:=wJ.filter (BE l)
theorem sJ {l:List Rw}:BE l t=true↔∃p∈l,∃q∈l,max p.1.2.1 q.1.2.1=t.1/\max p.1.2.2 q.1.2.2=t.2:=by
 unfold BE;simp only[List.any_eq_true,decide_eq_true_eq,Prod.ext_iff]
theorem kX {l:List Rw}:t∈jT l↔bM t.1 t.2=true/\BE l t=true:=by
 unfold jT;rw[fM,Es]
theorem rX (l:List Rw):(jT l).Pairwise fun p q=>bJ p q=true:=MX.filter _
theorem nJ (l:List Rw):(jT l).length<=64:=by
 have:=gM (BE l) wJ;rw[MW]at this;exact this
theorem kW (l:List Rw){x y:Int}(h:bM x y=false):aM l x y=[]:=by simp[aM,h]
theorem Hc {l:List Rw}{x y:Int}(h:∀r∈l,cX r.1.2.1 r.1.2.2 x y=false):c9 l x y=[]:=by
 unfold c9;rw[jB.2 (fun r hr=>by rw[h r hr];simp)];rfl
theorem I9 {l:List Rw}{x y:Int}(h:aZ l=true)(hx:bM x y=true)(hn:∀r∈l,cX r.1.2.1 r.1.2.2 x y=true->r.1.2.1≠x):aM l (x-1) y=aM l x y:=by
 have g:=fH.1 hx
 by_cases h1:x=0
 ·rw[kW l (by subst h1;simp[bM]),eV h hx,Hc,show aO bJ ([]:List It)=[] from rfl];intro r hr;rw[pU];intro e;have:=hn r hr e;rw[gY,fH]at e;omega
 ·have a:bM (x-1) y=true:=by rw[fH];omega
  rw[eV h hx,eV h a]
  congr 1
  unfold c9
  congr 1
  refine nA fun r hr=>?_;rw[oW];constructor
  ·intro e;rw[gY,fH]at e ⊢;exact⟨e.1,hx,by omega,e.2.2.2⟩
  ·intro e;have:=hn r hr e;rw[gY]at e ⊢;exact⟨e.1,a,by omega,e.2.2.2⟩
theorem IA {l:List Rw}{x y:Int}(h:aZ l=true)(hx:bM x y=true)(hn:∀r∈l,cX r.1.2.1 r.1.2.2 x y=true->r.1.2.2≠y):aM l x (y-1)=aM l x y:=by
 have g:=fH.1 hx
 by_cases h1:y=0
 ·rw[kW l (by subst h1;simp[bM]),eV h hx,Hc,show aO bJ ([]:List It)=[] from rfl];intro r hr;rw[pU];intro e;have:=hn r hr e;rw[gY,fH]at e;omega
 ·have a:bM x (y-1)=true:=by rw[fH];omega
  rw[eV h hx,eV h a]
  congr 1
  unfold c9
  congr 1
  refine nA fun r hr=>?_;rw[oW];constructor
  ·intro e;rw[gY,fH]at e ⊢;exact⟨e.1,hx,by omega,by omega⟩
  ·intro e;have:=hn r hr e;rw[gY]at e ⊢;exact⟨e.1,a,by omega,by omega⟩
def fS (kind:Int)(l:List Rw)(t:Int×Int):List It:=
 aO bJ (dE kind (aM l t.1 t.2)++dY (dE kind (aM l (t.1-1) t.2))++dY (dE kind (aM l t.1 (t.2-1)))++dE kind (aM l (t.1-1) (t.2-1)))
theorem zC (kind:Int)(l:List Rw)(t:Int×Int)(v:Int×Int):aK (fS kind l t) v =
  aK (dE kind (aM l t.1 t.2)) v-aK (dE kind (aM l (t.1-1) t.2)) v-aK (dE kind (aM l t.1 (t.2-1))) v+aK (dE kind (aM l (t.1-1) (t.2-1))) v:=by
 unfold fS;rw[lJ cQ,eI,eI,eI,xB,xB];omega
theorem MK (kind:Int){l:List Rw}(h:aZ l=true)(g:bM t.1 t.2=true)(B:BE l t=false)(v:Int×Int):aK (fS kind l t) v=0:=by
 rw[zC];have H:=fH.1 g
 by_cases ha:∃p∈l,cX p.1.2.1 p.1.2.2 t.1 t.2=true/\p.1.2.1=t.1
 ·have s:∀r∈l,cX r.1.2.1 r.1.2.2 t.1 t.2=true->r.1.2.2≠t.2:=fun q hq A D=>by
   obtain⟨p,hp,G,I⟩:=ha;have:BE l t=true:=by
    rw[sJ];rw[gY]at A G;exact⟨p,hp,q,hq,by omega,by omega⟩
   rw[this]at B;cases B
  rw[IA h g s]
  by_cases h1:t.1=0
  ·rw[kW l (x:=t.1-1) (y:=t.2) (by simp[bM];omega),kW l (x:=t.1-1) (y:=t.2-1) (by simp[bM];omega)];omega
  ·have a:bM (t.1-1) t.2=true:=by rw[fH];omega
   rw[IA h a (fun r hr e=>s r hr (by rw[gY]at e ⊢;exact⟨e.1,g,by omega,e.2.2.2⟩))];omega
 ·have s:∀r∈l,cX r.1.2.1 r.1.2.2 t.1 t.2=true->r.1.2.1≠t.1:=fun r hr A D=>ha ⟨r,hr,A,D⟩;rw[I9 h g s]
  by_cases h1:t.2=0
  ·rw[kW l (x:=t.1) (y:=t.2-1) (by simp[bM];omega),kW l (x:=t.1-1) (y:=t.2-1) (by simp[bM];omega)];omega
  ·have a:bM t.1 (t.2-1)=true:=by rw[fH];omega
   rw[I9 h a (fun r hr e=>s r hr (by rw[gY]at e ⊢;exact⟨e.1,g,e.2.2.1,by omega⟩))];omega
def eW (kind:Int)(l:List Rw)(ts:LI):List Rw:=ts.flatMap fun t=>(fS kind l t).map fun r=>((r.1,t),r.2)
def fD (kind:Int)(l:List Rw):List Rw:=eW kind l (jT l)
theorem OF (m:List It)(t:Int×Int)(x y:Int):c9 (m.map fun r=>((r.1,t),r.2)) x y=if cX t.1 t.2 x y then m else []:=by
 induction m with
 | nil=>simp[c9]
 | cons r m ih=>
  rw[gQ,yZ,ih]
  by_cases h:cX t.1 t.2 x y=true<;>simp[h]
theorem Ed (kind:Int)(l:List Rw)(ts:LI)(x y:Int)(v:Int×Int):aK (c9 (eW kind l ts) x y) v=jI (fun t=>if cX t.1 t.2 x y then aK (fS kind l t) v else 0) ts:=by
 induction ts with
 | nil=>rfl
 | cons t ts ih=>
  show aK (c9 (_++eW kind l ts) x y) v=_
  rw[pE,eI,ih,OF];simp only[jI]
  by_cases h:cX t.1 t.2 x y=true<;>simp[h,aK]
theorem G0 (kind:Int){l:List Rw}(h:aZ l=true){X Y:Int}(hX:bM X Y=true)(v:Int×Int):
  jI (fun t=>if cX t.1 t.2 X Y then aK (fS kind l t) v else 0) (jT l)=aK (dE kind (aM l X Y)) v:=by
 have h1:=Rc (E:=fun x y=>aK (dE kind (aM l x y)) v) (fun x y e=>by show aK (dE kind (aM l x y)) v=0;rw[kW l e,Na];rfl) hX;rw[<- h1];unfold jT;rw[H3];refine JW fun t a=>?_;have g:=Es.1 a;cases s:BE l t
 ·have:=MK kind h g s v;rw[zC]at this;rw[this];simp
 ·simp only[if_true];rw[zC]
theorem OO (kind:Int){l:List Rw}(h:aZ l=true){X Y:Int}(hX:bM X Y=true)(v:Int×Int):aK (c9 (fD kind l) X Y) v=aK (dE kind (aM l X Y)) v:=by
 unfold fD;rw[Ed,G0 kind h hX]
theorem Mh (kind:Int){l:List Rw}(h:aZ l=true){i:Nat}(a:(jT l)[i]?=some t)(v:Int×Int):
  aK (dE kind (aM l t.1 t.2)) v-aK (c9 (eW kind l ((jT l).take i)) t.1 t.2) v=aK (fS kind l t) v:=by
 obtain⟨hi,e⟩:=List.getElem?_eq_some_iff.1 a;have A:=(kX.1 (List.mem_of_getElem? a)).1;have hs:(jT l).take i++t::(jT l).drop (i+1)=jT l:=by
  rw[<- e,<-List.drop_eq_getElem_cons hi,List.take_append_drop]
 have h1:=G0 kind h A v;rw[<- hs,vB]at h1;simp only[jI]at h1;have h2:jI (fun s=>if cX s.1 s.2 t.1 t.2 then aK (fS kind l s) v else 0) ((jT l).drop (i+1))=0:=Lf fun s g=>by
  have hp:=rX l;rw[<- hs,List.pairwise_append]at hp;have h3:=(List.pairwise_cons.1 hp.2.1).1 s g;have:cX s.1 s.2 t.1 t.2=false:=by
   rw[pU];intro B;rw[gY]at B;simp only[bJ,decide_eq_true_eq]at h3;omega
  rw[this];simp
 rw[h2,F9,A]at h1;simp only[if_true]at h1;rw[Ed];omega
theorem F8 (kind:Int){l:List Rw}(h:aZ l=true){i:Nat}(a:(jT l)[i]?=some t){L:List It}(g:∀v,aK L v=aK (dE kind (aM l t.1 t.2)) v-aK (c9 (eW kind l ((jT l).take i)) t.1 t.2) v):aO bJ L=fS kind l t:=by
 have h1:fS kind l t=aO bJ (fS kind l t):=(Dc cQ (kN cQ _) (pP bJ _)).symm;rw[h1];exact lD cQ fun v=>by rw[g,Mh kind h a]
def aY (l:List Rw)(k:Int):List Rw:=l.filter fun r=>decide (r.1.1.1=k)
def fT (kind:Int)(a:List Rw):List Rw:=fD kind (aY a 0)++fD kind (aY a 1)++fD kind (aY a 2)++fD kind (aY a 3)
def sH (a:List Rw)(key:Int):LI:=if aZ a then jT (aY a key) else []
theorem Db {a:List Rw}(h:aZ a=true)(k:Int):aZ (aY a k)=true:=
 vT (Nat.le_trans (gM _ _) (i6 h)) fun _ hr=>eZ h (fM.1 hr).1
theorem B5 (p:Int×Int->Bool)(l:List It)(s:Int×Int):aK (l.filter fun r=>p r.1) s=if p s then aK l s else 0:=by
 induction l with
 | nil=>simp[aK]
 | cons r l ih=>
  rw[fQ]
  by_cases h:p r.1=true
  ·simp only[h,if_true,aK,ih]
   by_cases e:r.1=s
   ·subst e;simp[h]
   ·simp[e]
  ·simp only[h,oU,if_false,aK,ih]
   by_cases e:r.1=s
   ·subst e;simp[h]
   ·simp[e]
theorem MB (a:List Rw)(k x y:Int):c9 (aY a k) x y=(c9 a x y).filter fun r=>decide (r.1.1=k):=by
 unfold aY
 induction a with
 | nil=>rfl
 | cons r a ih=>
  rw[fQ]
  by_cases h:r.1.1.1=k<;>cases g:cX r.1.2.1 r.1.2.2 x y<;>simp[h,g,yZ,ih]
theorem A4 {a:List Rw}(h:aZ a=true)(k x y:Int):aM (aY a k) x y=(aM a x y).filter fun r=>decide (r.1.1=k):=by
 cases hx:bM x y
 ·rw[kW _ hx,kW _ hx];rfl
 ·rw[eV (Db h k) hx,eV h hx,MB];refine (n8 cQ ((kN cQ _).filter _) (fun r hr=>pP _ _ r (fM.1 hr).1) fun s=>?_).symm;rw[B5 (fun s=>decide (s.1=k)),B5 (fun s=>decide (s.1=k)),lJ cQ]
theorem wC (kind:Int){a:List Rw}(h:aZ a=true)(h0:0<=k)(h3:k<=3){X Y:Int}(hX:bM X Y=true)(v:Int×Int):
  aK (c9 (fD kind (aY a k)) X Y) v=aK (kP kind (aM a X Y) k) v:=by
 rw[OO kind (Db h k) hX,Al kind (k:=k) (cO _ _ _) (fun r hr=>?_) h0 h3,A4 h,L2];rw[A4 h]at hr
 simpa using (fM.1 hr).2
theorem KG (kind:Int){a:List Rw}(h:aZ a=true){X Y:Int}(hX:bM X Y=true)(v:Int×Int):aK (c9 (fT kind a) X Y) v=aK (dE kind (aM a X Y)) v:=by
 unfold fT;rw[xK kind (cO a X Y),pE,pE,pE,eI,eI,eI,eI,eI,eI,
  wC kind h (by omega) (by omega) hX,wC kind h (by omega) (by omega) hX,wC kind h (by omega) (by omega) hX,wC kind h (by omega) (by omega) hX]
theorem Le (kind:Int){s:List It}(h:aX s=true)(v:Int×Int):(aK (dE kind s) v=1/\∃r∈dE kind s,r.1=v)\/aK (dE kind s) v=0:=by
 by_cases a:∃r∈dE kind s,r.1=v
 ·obtain⟨r,hr,e⟩:=a
  left
  refine⟨?_,r,hr,e⟩;have:=sL cQ (qL (p8 kind h)) hr;rw[<- e,this,uP h hr]
 ·exact .inr (iS fun r hr e=>a ⟨r,hr,e⟩)
theorem OL {l:List Rw}{ts:LI}(B:∀t∈ts,bM t.1 t.2=true){r:Rw}(hr:r∈eW kind l ts):jK r.1.1/\bM r.1.2.1 r.1.2.2=true/\r.1.2∈ts:=by
 unfold eW at hr;obtain⟨t,s,hr⟩:=gX.1 hr;obtain⟨q,hq,rfl⟩:=gD.1 hr;refine⟨?_,B t s,s⟩;obtain⟨p,hp,e⟩:=qM hq;have g:∀x y,∀p∈dE kind (aM l x y),jK p.1:=fun x y p hp=>mN (p8 kind (cO l x y)) p hp;have:jK p.1:=by
  simp only[iM]at hp
  rcases hp with ((hp|hp)|hp)|hp
  ·exact g _ _ p hp
  ·obtain⟨A,a,rfl⟩:=gD.1 hp;exact g _ _ A a
  ·obtain⟨A,a,rfl⟩:=gD.1 hp;exact g _ _ A a
  ·exact g _ _ p hp
 rw[e]at this;exact this
theorem Ns (l:List Rw):∀t∈jT l,bM t.1 t.2=true:=fun _ h=>(kX.1 h).1
theorem ON {l:List Rw}(h0:0<=k)(h3:k<=3)(D:∀r∈l,r.1.1.1=k){r:Rw}(hr:r∈fD kind l):r.1.1.1=k:=by
 unfold fD eW at hr;obtain⟨t,G,hr⟩:=gX.1 hr;obtain⟨q,hq,rfl⟩:=gD.1 hr;obtain⟨p,hp,e⟩:=qM hq;have A:∀x y,∀p∈aM l x y,p.1.1=k:=fun x y p hp=>by
  unfold aM at hp;split at hp
  ·obtain⟨q,hq,e⟩:=qM hp;unfold c9 at hq;obtain⟨B,s,rfl⟩:=gD.1 hq;rw[<- e];exact D B (fM.1 s).1
  ·simp at hp
 have hs:∀x y,∀p∈dE kind (aM l x y),p.1.1=k:=fun x y p hp=>by
  rw[Al kind (cO l x y) (A x y) h0 h3]at hp;exact (DX hp).1
 have:p.1.1=k:=by
  simp only[iM]at hp
  rcases hp with ((hp|hp)|hp)|hp
  ·exact hs _ _ p hp
  ·obtain⟨g,a,rfl⟩:=gD.1 hp;exact hs _ _ g a
  ·obtain⟨g,a,rfl⟩:=gD.1 hp;exact hs _ _ g a
  ·exact hs _ _ p hp
 rw[e]at this;exact this
theorem Oa {A B:Type}{f:A->List B}{c:Nat}(h:∀x,(f x).length<=c)(l:List A):(l.flatMap f).length<=c*l.length:=by
 induction l with
 | nil=>simp
 | cons x l ih=>
  have:=h x;rw[List.flatMap_cons,jO,nB,Nat.mul_add];omega
end Go.Proofs.YtbdpcngcbnoioaaGreatDoor
