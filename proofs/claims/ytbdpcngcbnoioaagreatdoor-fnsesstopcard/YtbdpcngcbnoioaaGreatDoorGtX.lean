import Derived.Test.YtbdpcngcbnoioaaGreatDoorGs7
set_option maxRecDepth 100000
set_option maxHeartbeats 16000000
namespace Go.Proofs.YtbdpcngcbnoioaaGreatDoor
open _root_.List renaming getElem?_eq_getElem->fM,take_length->fQ,length_append->gD,filter_append->gM,mem_filter->gQ,mem_of_getElem?->gX,getElem?_eq_some_iff->iM,mem_append->iP,length_filter_le->jB,pairwise_iff_getElem->jO,length_take->mO,filter_cons->nA,map_append->nB,append_nil->nT,pairwise_append->nX,getElem_of_mem->oU,map_cons->oW,Pairwise->pU,range->qV,getElem?_take->sD,length_map->tJ,mem_range->tK,mem_map->tL,length_pos_iff->tM,pairwise_map->tN,all_eq_true->xU,mem_cons->xV
open Go.Proofs.Tryz renaming prog->AP,underlying35->AW,ntmps142->C5,func142->Df,ntmps256->E8,ntmps145->Fj,func256->Fl,func145->Ih,underlying126->JK,ntmps199->M1,ntmps198->Nk,ntmps146->Qz,ntmps73->RW,func199->Re,func198->Rg,func146->Rh,func73->Ri
open Go renaming World->Rk,Value->Rm,IntKind->Rn,Calls->Ro,rounds_succ->Rp,wpQuiet_nil->Rq,info_parts->Rt,wp_loop_rounds->Ru,Builtin->Rv
open _root_.Array renaming getElem?_setIfInBounds->Rx
open Go.RowKit renaming Below->Ry
open Go.IntKind renaming wrap_i64->Rz,i64->S0
open Go.RowKit.Below renaming refl->S1
open _root_.Bool renaming and_eq_true->S2
open _root_.Nat renaming le_trans->S3,le_refl->S4,add_mul->S5,mod_lt->S6
open _root_.Int renaming mul_add->S7,le_trans->S8,tmod_lt_of_pos->S9,lt_tmod_of_pos->SA
open Go.World renaming alloc->SB
open _root_.Option.some renaming inj->SC
open _root_.List.Pairwise renaming filter->SD
open _root_.Option renaming some->SE
open Go.Instr renaming index->SF
variable {D K V d how key:Int}{c:Array Rm}{i j k m:Nat}{s:Int×Int}{v:Rm}{w:Rk}
def m7 (r:It):Bool:=cG r.1.1 0 3&&cG r.1.2 0 99&&decide (r.2≠0)&&cG r.2 (-1099511627776) 1099511627776
def jE (l:List It)(i:Nat):Bool:=
 match l[i]? with
 | none=>true
 | some r=>m7 r&&(match i with|0=>true|j+1=>match l[j]? with|none=>true|some q=>bJ q.1 r.1)
def aX (l:List It):Bool:=decide (l.length<=400)&&(qV l.length).all (jE l)
theorem dF {l:List It}(h:aX l=true):l.length<=400:=by simp[aX]at h;exact h.1
theorem QI {l:List It}(hi:i<l.length)(h:jE l i=false):aX l=false:=by
 unfold aX;have:(qV l.length).all (jE l)=false:=by
  rw[List.all_eq_false];exact⟨i,by simpa using hi,by simp[h]⟩
 rw[this,Bool.and_false]
theorem NT {l:List It}(h:400<l.length):aX l=false:=by simp[aX];omega
theorem LN {l:List It}(h:l.length<=400)(ha:∀i,i<l.length->jE l i=true):aX l=true:=by
 unfold aX;rw[S2,xU];exact⟨by simpa using h,fun j g=>ha j (by simpa using g)⟩
theorem AJ {l:List It}{r:It}(h:l[0]?=some r):jE l 0=m7 r:=by unfold jE;rw[h];simp
theorem xJ {l:List It}{r q:It}(h:l[j+1]?=some r)(g:l[j]?=some q):jE l (j+1)=(m7 r&&bJ q.1 r.1):=by
 unfold jE;rw[h];simp[g]
theorem LP {l:List It}(h:aX l=true)(hi:i<l.length):jE l i=true:=by
 simp only[aX,S2,xU]at h;exact h.2 i (by simpa using hi)
theorem qD {l:List It}(h:aX l=true){r:It}(hr:r∈l):m7 r=true:=by
 obtain⟨i,hi,e⟩:=oU hr;have hs:=LP h hi;unfold jE at hs;rw[fM hi,e]at hs;simp only[S2]at hs;exact hs.1
theorem E7 {l:List It}(h:∀i r q,l[i+1]?=some r->l[i]?=some q->bJ q.1 r.1=true):kF bJ l:=by
 have key:∀d i (h1:i+d+1<l.length),bJ (l[i]'(by omega)).1 l[i+d+1].1=true:=by
  intro d
  induction d with
  | zero=>intro i h1;exact h i _ _ (fM h1) (fM (by omega))
  | succ d ih=>
   intro i h1;exact cQ.trans _ _ _ (ih i (by omega)) (h (i+d+1) _ _ (fM (by omega)) (fM (by omega)))
 refine jO.2 fun i j hi g A=>?_;obtain⟨d,rfl⟩:∃d,j=i+d+1:=⟨j-i-1,by omega⟩;exact key d i g
theorem qL {l:List It}(h:aX l=true):kF bJ l:=E7 fun i r q h1 h2=>by
 have:=LP h (iM.1 h1).1;rw[xJ h1 h2]at this;simp at this;exact this.2
theorem mW {r:It}(h:m7 r=true):0<=r.1.1/\r.1.1<=3/\0<=r.1.2/\r.1.2<=99/\r.2≠0 /\ -1099511627776<=r.2/\r.2<=1099511627776:=by
 simp only[m7,cG,S2,decide_eq_true_eq]at h;omega
theorem EC {r:It}(h:0<=r.1.1/\r.1.1<=3/\0<=r.1.2/\r.1.2<=99/\r.2≠0 /\ -1099511627776<=r.2/\r.2<=1099511627776):m7 r=true:=by
 simp only[m7,cG,S2,decide_eq_true_eq];omega
theorem QJ {l:List It}(h:aX l=true):Nz l:=fun _ hr=>(mW (qD h hr)).2.2.2.2.1
theorem yX {l:List It}(hl:l.length<=400)(h:∀r∈l,m7 r=true)(hs:kF bJ l):aX l=true:=LN hl fun i hi=>by
 have hr:=fM hi;have h0:=h _ (List.getElem_mem hi)
 match i,hi,hr,h0 with
 | 0,hi,hr,h0=>rw[AJ hr];exact h0
 | j+1,hi,hr,h0=>
  have hq:=fM (l:=l) (i:=j) (by omega);rw[xJ hr hq,S2];exact⟨h0,jO.1 hs j (j+1) (by omega) hi (by omega)⟩
theorem CR:aX []=true:=by decide
def jK (s:Int×Int):Prop:=0<=s.1/\s.1<=3/\0<=s.2/\s.2<=99
theorem PZ {l:List It}(hl:l.length<=400)(h:∀r∈l,jK r.1)(ha:aJ l<=1099511627776):aX (aO bJ l)=true:=
 yX (S3 (gP _ _) hl) (fun r hr=>by
  obtain⟨q,hq,e⟩:=qM hr;obtain⟨h1,h2,h3,h4⟩:=h q hq;have g:=Nb cQ hr;rw[e]at h1 h2 h3 h4;exact EC ⟨h1,h2,h3,h4,pP _ _ r hr,by omega,by omega⟩) (kN cQ _)
theorem mN {l:List It}(h:aX l=true):∀r∈l,jK r.1:=fun r hr=>by
 obtain⟨h1,h2,h3,h4,_⟩:=mW (qD h hr);exact⟨h1,h2,h3,h4⟩
theorem CQ {l:List It}(h:aX l=true):aJ l<=1099511627776*400:=by
 have h1:=mP (l:=l) (c:=1099511627776) fun r hr=>by have:=mW (qD h hr);omega
 have h2:=dF h;have:(1099511627776:Int)*l.length<=1099511627776*400:=by omega
 omega
def bC (how:Int)(s:Int×Int):Int×Int:=
 if how=1 then (s.2%4,s.2-s.2%4+s.1) else if how=2 then (s.1,(s.2+1)%100) else if how=3 then (s.2%4,s.2) else if how=4 then (0,s.2) else s
def cR (how:Int)(s:Int×Int):Bool:=
 if how=5 then decide (s.2%2=0) else if how=6 then decide (s.1%2=0) else if how=7 then decide (s.2<10) else true
def aP (how:Int)(l:List It):List It:=(l.filter fun r=>cR how r.1).map fun r=>(bC how r.1,r.2)
def eU (l:List It)(how:Int):List It:=if aX l&&cG how 1 7 then aO bJ (aP how l) else []
def kO (s t:List It):List It:=if aX s&&aX t then aO bJ (s++t) else []
def dY (l:List It):List It:=l.map fun r=>(r.1,-r.2)
def nM (l:List It):List It:=if aX l then dY l else []
def pv (a b:Int):Int:=(10*a+b)%100
def eY (s t:List It):List It:=s.flatMap fun x=>(t.filter fun y=>decide (x.1.1=y.1.1)).map fun y=>((x.1.1,pv x.1.2 y.1.2),x.2*y.2)
def ED (s t:List It):List It:=if aX s&&aX t then aO bJ (eY s t) else []
def bZ (l:List It):List It:=(l.filter fun r=>decide (0<r.2)).map fun r=>(r.1,1)
def mM (l:List It):List It:=if aX l then bZ l else []
def bY (l:List It)(k:Int):Int:=fA (fun s:Int×Int=>if s.1=k then 1 else 0) l
def kC (l:List It)(k:Int):List It:=if bY l k=0 then [] else [((k,bY l k%100),1)]
def kH (l:List It):List It:=if aX l then kC l 0++kC l 1++kC l 2++kC l 3 else []
def hZ (l:List It)(k:Int):List It:=((bZ l).filter fun r=>decide (r.1.1=k)).take 1
def jV (l:List It):List It:=if aX l then hZ l 0++hZ l 1++hZ l 2++hZ l 3 else []
theorem Ek (how:Int)(l:List It)(s:Int×Int):aK (aP how l) s=fA (fun x=>if cR how x=true/\bC how x=s then 1 else 0) l:=G6 (cR how) (bC how) l s
theorem xB (l:List It)(s:Int×Int):aK (dY l) s =-aK l s:=Ca l s
def EE (z:Int×Int)(x y:Int×Int):Int:=if x.1=y.1/\(x.1,pv x.2 y.2)=z then 1 else 0
theorem N4 (x:It)(t:List It)(z:Int×Int):aK ((t.filter fun y=>decide (x.1.1=y.1.1)).map fun y=>((x.1.1,pv x.1.2 y.1.2),x.2*y.2)) z=x.2*fA (EE z x.1) t:=by
 induction t with
 | nil=>simp[aK,fA]
 | cons y t ih=>
  rw[nA]
  by_cases h:x.1.1=y.1.1
  ·simp only[h,decide_true,if_true,oW,aK,fA];rw[<- h,ih];unfold EE
   by_cases e:(x.1.1,pv x.1.2 y.1.2)=z
   ·rw[if_pos e,if_pos ⟨h,e⟩,S7];simp
   ·rw[if_neg e,if_neg (fun c=>e c.2),S7];simp
  ·rw[if_neg (by simpa using h),ih,fA];have:EE z x.1 y.1=0:=if_neg fun c=>h c.1;rw[this];simp
theorem FW (s t:List It)(z:Int×Int):aK (eY s t) z=fA (fun x=>fA (EE z x) t) s:=by
 induction s with
 | nil=>rfl
 | cons x s ih=>
  show aK (_++eY s t) z=_
  rw[eI,ih,N4];rfl
theorem mT (how:Int)(l:List It):aJ (aP how l)<=aJ l:=by
 induction l with
 | nil=>simp[aP]
 | cons r l ih=>
  unfold aP at ih ⊢;rw[nA]
  by_cases h:cR how r.1=true
  ·simp only[h,if_true,oW,aJ];omega
  ·rw[if_neg h];simp only[aJ];omega
theorem MO (how:Int)(l:List It):(aP how l).length<=l.length:=by
 unfold aP;rw[tJ];exact jB _ _
theorem uS (h:jK s):jK (bC how s):=by
 obtain⟨h1,h2,h3,h4⟩:=h;unfold bC jK
 split
 ·simp only;omega
 ·split
  ·simp only;omega
  ·split
   ·simp only;omega
   ·split
    ·simp only;omega
    ·exact⟨h1,h2,h3,h4⟩
theorem oR {l:List It}(h:aX l=false):eU l how=[]:=by simp[eU,h]
theorem Ej {l:List It}(h:cG how 1 7=false):eU l how=[]:=by simp[eU,h]
theorem lZ {l:List It}(h:aX l=true)(g:cG how 1 7=true):eU l how=aO bJ (aP how l):=by simp[eU,h,g]
theorem K0 (l:List It)(how:Int):(eU l how).length<=400:=by
 unfold eU;split
 ·rename_i h;rw[S2]at h;exact S3 (gP _ _) (S3 (MO _ _) (dF h.1))
 ·simp
theorem Lg {l m:List It}(h:aX m=true)(g:∀s,aK m s=aK l s):aO bJ l=m:=(n8 cQ (qL h) (QJ h) g).symm
theorem Jq {s t:List It}(h:aX s=false):kO s t=[]:=by simp[kO,h]
theorem Jr {s t:List It}(h:aX t=false):kO s t=[]:=by simp[kO,h]
theorem Cx {s t:List It}(h:aX s=true)(g:aX t=true):kO s t=aO bJ (s++t):=by simp[kO,h,g]
theorem Jp (s t:List It):(kO s t).length<=800:=by
 unfold kO;split
 ·rename_i h;rw[S2]at h;have h1:=dF h.1;have h2:=dF h.2;have h3:=gP bJ (s++t);rw[gD]at h3;omega
 ·simp
theorem Qx {s t:List It}(h:∀r∈s,jK r.1)(g:∀r∈t,jK r.1):∀r∈s++t,jK r.1:=fun r hr=>by
 rcases iP.1 hr with hr|hr
 ·exact h r hr
 ·exact g r hr
theorem P1 {l:List It}(h:aX l=true):aX (dY l)=true:=by
 refine yX (by simp[dY];exact dF h) (fun r hr=>?_) ?_
 ·obtain⟨q,hq,rfl⟩:=tL.1 hr;have:=mW (qD h hq);exact EC (by simp only;omega)
 ·unfold kF dY;rw[tN];exact qL h
theorem yN {l:List It}(h:aX l=true):nM l=dY l:=by simp[nM,h]
theorem Mk {l:List It}(h:aX l=false):nM l=[]:=by simp[nM,h]
theorem Kj (l:List It):(nM l).length<=400:=by
 unfold nM;split
 ·rename_i h;simp[dY];exact dF h
 ·simp
theorem uA {s t:List It}(h:aX s=true)(g:aX t=true):ED s t=aO bJ (eY s t):=by simp[ED,h,g]
theorem N3 (s t:List It):(eY s t).length<=s.length*t.length:=by
 induction s with
 | nil=>simp[eY]
 | cons x s ih=>
  show (_++eY s t).length<=_
  rw[gD,tJ,List.length_cons,S5];have:=jB (fun y:It=>decide (x.1.1=y.1.1)) t;omega
theorem O7 (x:It)(t:List It):aJ ((t.filter fun y=>decide (x.1.1=y.1.1)).map fun y=>((x.1.1,pv x.1.2 y.1.2),x.2*y.2))<=(x.2.natAbs:Int)*aJ t:=by
 induction t with
 | nil=>simp[aJ]
 | cons y t ih=>
  rw[nA];have hp:(0:Int)<=(x.2.natAbs:Int)*(y.2.natAbs:Int):=Int.mul_nonneg (by omega) (by omega)
  by_cases h:x.1.1=y.1.1
  ·simp only[h,decide_true,if_true,oW,aJ];rw[<- h,S7,Int.natAbs_mul];have:((x.2.natAbs*y.2.natAbs:Nat):Int)=(x.2.natAbs:Int)*(y.2.natAbs:Int):=by simp
   omega
  ·rw[if_neg (by simpa using h)];simp only[aJ,S7];omega
theorem FT (s t:List It):aJ (eY s t)<=aJ s*aJ t:=by
 induction s with
 | nil=>simp[eY,aJ]
 | cons x s ih=>
  show aJ (_++eY s t)<=_
  rw[cV];have:=O7 x t;simp only[aJ,Int.add_mul];omega
theorem JE {s t:List It}{c:Int}(h1:aJ s<=c)(h2:aJ t<=c):aJ (eY s t)<=c*c:=by
 have h3:=FT s t;have h4:aJ s*aJ t<=c*aJ t:=Int.mul_le_mul_of_nonneg_right h1 (eN t);have h5:c*aJ t<=c*c:=Int.mul_le_mul_of_nonneg_left h2 (S8 (eN s) h1);omega
theorem IP (l:List It)(p:It->Bool):aJ (l.filter p)<=aJ l:=by
 induction l with
 | nil=>simp
 | cons r l ih=>
  rw[nA]
  split
  ·simp only[aJ];omega
  ·simp only[aJ];omega
theorem PL (r:It)(l:List It):aJ (fP bJ r l)<=r.2.natAbs+aJ l:=by
 induction l with
 | nil=>simp[fP,aJ]
 | cons x l ih=>
  unfold fP
  by_cases h1:bJ r.1 x.1=true
  ·rw[if_pos h1];simp only[aJ];omega
  ·rw[if_neg h1]
   by_cases h2:bJ x.1 r.1=true
   ·rw[if_pos h2];simp only[aJ];omega
   ·rw[if_neg h2];simp only[aJ];omega
theorem LY (l:List It):aJ (iF bJ l)<=aJ l:=by
 induction l using p6 with
 | h0=>simp[iF]
 | h1 l r ih=>
  rw[lV,cV];have:=PL r (iF bJ l);simp only[aJ];omega
theorem xL (l:List It):aJ (aO bJ l)<=aJ l:=S8 (IP _ _) (LY l)
theorem Jo (s t:List It):aJ (kO s t)<=aJ s+aJ t:=by
 unfold kO;split
 ·rw[<- cV];exact xL _
 ·have:=eN s;have:=eN t;simp only[aJ];omega
theorem Ms (l:List It):aJ (dY l)=aJ l:=by
 induction l with
 | nil=>rfl
 | cons r l ih=>unfold dY at ih ⊢;simp only[oW,aJ,ih];omega
theorem pK (l:List It)(r:It)(k:Int):bY (l++[r]) k=bY l k+(if r.1.1=k then r.2 else 0):=by
 unfold bY;rw[AO];simp only[fA];split<;>simp
theorem wS (l:List It)(k:Int): -aJ l<=bY l k/\bY l k<=aJ l:=by
 induction l with
 | nil=>simp[bY,fA,aJ]
 | cons r l ih=>
  unfold bY at ih ⊢;simp only[fA,aJ]
  split<;>simp only[Int.mul_one,Int.mul_zero]<;>omega
theorem wF {l:List It}{k:Int}{r:It}(h:r∈kC l k):r=((k,bY l k%100),1)/\bY l k≠0:=by
 unfold kC at h
 split at h
 ·simp at h
 ·exact⟨by simpa using h,by assumption⟩
theorem q8 (l:List It)(k:Int):(kC l k).length<=1:=by unfold kC;split<;>simp
theorem Jv {l:List It}(h:aX l=false):kH l=[]:=by simp[kH,h]
theorem Aw {l:List It}(h:aX l=true):kH l=kC l 0++kC l 1++kC l 2++kC l 3:=by simp[kH,h]
theorem Av (l:List It):(kH l).length<=4:=by
 unfold kH;split
 ·have:=q8 l 0;have:=q8 l 1;have:=q8 l 2;have:=q8 l 3;simp only[gD];omega
 ·simp
theorem IW {l:List It}{r:It}(h:r∈kH l):r.2=1/\bY l r.1.1≠0/\r.1.2=bY l r.1.1%100/\0<=r.1.1/\r.1.1<=3:=by
 unfold kH at h
 split at h
 ·simp only[iP]at h
  rcases h with ((h|h)|h)|h<;>obtain⟨rfl,hn⟩:=wF h<;>exact⟨rfl,hn,rfl,by simp,by simp⟩
 ·simp at h
theorem xH {f:Int->List It}(h1:∀k,∀r∈f k,r.1.1=k){R:It->It->Prop}(g:∀k,(f k).Pairwise R)(A:∀p q:It,p.1.1<q.1.1->R p q):(f 0++f 1++f 2++f 3).Pairwise R:=by
 have key:∀{p q:It}{a b:Int},p∈f a->q∈f b->a<b->R p q:=fun hp hq B=>A _ _ (by rw[h1 _ _ hp,h1 _ _ hq];exact B);rw[nX,nX,nX];refine⟨⟨⟨g 0,g 1,fun p hp q hq=>key hp hq (by omega)⟩,g 2,fun p hp q hq=>?_⟩,g 3,fun p hp q hq=>?_⟩
 ·rcases iP.1 hp with hp|hp<;>exact key hp hq (by omega)
 ·simp only[iP]at hp
  rcases hp with (hp|hp)|hp<;>exact key hp hq (by omega)
theorem Jw (l:List It):(kH l).Pairwise fun p q=>p.1.1<q.1.1:=by
 unfold kH;split
 ·refine xH (f:=kC l) (fun k r hr=>?_) (fun k=>?_) (fun _ _ h=>h)
  ·rw[(wF hr).1]
  ·unfold kC;split<;>simp
 ·simp
theorem Hs {p q:It}(h:p.1.1<q.1.1):bJ p.1 q.1=true:=by simp[bJ];exact .inl h
theorem JR {l:List It}(hs:kF bJ l)(g:∀r∈l,0<=r.1.1/\r.1.1<=3):
  (l.filter fun r=>decide (r.1.1=0))++(l.filter fun r=>decide (r.1.1=1))++(l.filter fun r=>decide (r.1.1=2))++(l.filter fun r=>decide (r.1.1=3))=l:=by
 refine zN cQ ?_ hs fun r=>?_
 ·exact xH (f:=fun k=>l.filter fun r=>decide (r.1.1=k)) (fun k r hr=>by simpa using (gQ.1 hr).2) (fun k=>SD _ hs) (fun _ _ h=>Hs h)
 ·simp only[iP,gQ,decide_eq_true_eq];constructor
  ·rintro (((h|h)|h)|h)<;>exact h.1
  ·intro h;have:=g r h;have e:r.1.1=0\/r.1.1=1\/r.1.1=2\/r.1.1=3:=by omega
   rcases e with e|e|e|e
   ·exact .inl (.inl (.inl ⟨h,e⟩))
   ·exact .inl (.inl (.inr ⟨h,e⟩))
   ·exact .inl (.inr ⟨h,e⟩)
   ·exact .inr ⟨h,e⟩
theorem xD {l:List It}{r:It}:r∈bZ l↔r.2=1/\∃q∈l,0<q.2/\q.1=r.1:=by
 unfold bZ;simp only[tL,gQ,decide_eq_true_eq];constructor
 ·rintro⟨q,⟨h1,h2⟩,rfl⟩;exact⟨rfl,q,h1,h2,rfl⟩
 ·rintro⟨h1,q,h2,h3,h4⟩;exact⟨q,⟨h2,h3⟩,Prod.ext h4 h1.symm⟩
theorem xF {l:List It}(h:kF bJ l):kF bJ (bZ l):=by
 unfold kF bZ;rw[tN];exact SD _ h
theorem xC (l:List It):(bZ l).length<=l.length:=by unfold bZ;rw[tJ];exact jB _ _
theorem Ad {l:List It}(h:aX l=true):aX (bZ l)=true:=
 yX (S3 (xC l) (dF h)) (fun r hr=>by
  obtain⟨h1,q,h2,h3,h4⟩:=xD.1 hr;have:=mW (qD h h2);rw[h4]at this;exact EC (by omega)) (xF (qL h))
theorem FM {l:List It}(h:aX l=false):mM l=[]:=by simp[mM,h]
theorem uH {l:List It}(h:aX l=true):mM l=bZ l:=by simp[mM,h]
theorem DS (l:List It):(mM l).length<=400:=by
 unfold mM;split
 ·rename_i h;exact S3 (xC l) (dF h)
 ·simp
theorem DT {l:List It}(h:aX l=true):∀r∈bZ l,0<=r.1.1/\r.1.1<=3:=fun r hr=>by
 have:=mW (qD (Ad h) hr);omega
theorem Ln {l:List It}(hs:kF bJ l)(r:It):r∈l.take 1↔r∈l/\∀q∈l,bJ q.1 r.1=false:=by
 cases l with
 | nil=>simp
 | cons x l=>
  obtain⟨hx,_⟩:=List.pairwise_cons.1 hs;simp only[List.take_succ_cons,List.take_zero,List.mem_singleton];constructor
  ·rintro rfl;refine⟨by simp,fun q hq=>?_⟩
   rcases xV.1 hq with rfl|hq
   ·exact cQ.irr _
   ·cases e:bJ q.1 r.1
    ·rfl
    ·have:=cQ.trans _ _ _ e (hx q hq);rw[cQ.irr]at this;cases this
  ·rintro⟨h1,h2⟩
   rcases xV.1 h1 with rfl|h1
   ·rfl
   ·have:=h2 x (by simp);rw[hx r h1]at this;cases this
theorem J0 {l:List It}(hs:kF bJ l)(k:Int)(r:It):r∈hZ l k↔r∈bZ l/\r.1.1=k/\∀q∈bZ l,q.1.1=k->bJ q.1 r.1=false:=by
 unfold hZ;rw[Ln (SD _ (xF hs))];simp only[gQ,decide_eq_true_eq];constructor
 ·rintro⟨⟨h1,h2⟩,h3⟩;exact⟨h1,h2,fun q hq e=>h3 q ⟨hq,e⟩⟩
 ·rintro⟨h1,h2,h3⟩;exact⟨⟨h1,h2⟩,fun q hq=>h3 q hq.1 hq.2⟩
theorem qB (l:List It)(k:Int):(hZ l k).length<=1:=by unfold hZ;rw[mO];omega
theorem Gf {R:It->It->Prop}(l:List It)(k:Int):(hZ l k).Pairwise R:=by
 have:=qB l k;generalize hZ l k=m at this
 match m,this with
 | [],_=>simp
 | [x],_=>simp
theorem Ki {l:List It}(h:aX l=false):jV l=[]:=by simp[jV,h]
theorem BN {l:List It}(h:aX l=true):jV l=hZ l 0++hZ l 1++hZ l 2++hZ l 3:=by simp[jV,h]
theorem BL (l:List It):(jV l).length<=4:=by
 unfold jV;split
 ·have:=qB l 0;have:=qB l 1;have:=qB l 2;have:=qB l 3;simp only[gD];omega
 ·simp
theorem BM {l:List It}(h:aX l=true)(r:It):r∈jV l↔r∈bZ l/\∀q∈bZ l,q.1.1=r.1.1->bJ q.1 r.1=false:=by
 rw[BN h];have hs:=qL h;simp only[iP,J0 hs];constructor
 ·rintro (((⟨h1,h2,h3⟩|⟨h1,h2,h3⟩)|⟨h1,h2,h3⟩)|⟨h1,h2,h3⟩)<;>exact⟨h1,fun q hq e=>h3 q hq (by omega)⟩
 ·rintro⟨h1,h2⟩;have:=DT h r h1;have e:r.1.1=0\/r.1.1=1\/r.1.1=2\/r.1.1=3:=by omega
  rcases e with e|e|e|e
  ·exact .inl (.inl (.inl ⟨h1,e,fun q hq g=>h2 q hq (by omega)⟩))
  ·exact .inl (.inl (.inr ⟨h1,e,fun q hq g=>h2 q hq (by omega)⟩))
  ·exact .inl (.inr ⟨h1,e,fun q hq g=>h2 q hq (by omega)⟩)
  ·exact .inr ⟨h1,e,fun q hq g=>h2 q hq (by omega)⟩
theorem DP (l:List It):(jV l).Pairwise fun p q=>p.1.1<q.1.1:=by
 unfold jV;split
 ·refine xH (f:=hZ l) (fun k r hr=>?_) (fun k=>Gf l k) (fun _ _ h=>h);unfold hZ at hr
  simpa using (gQ.1 (List.mem_of_mem_take hr)).2
 ·simp
theorem G7 {l:List It}(h:l.Pairwise fun p q=>p.1.1<q.1.1):kF bJ l:=pU.imp (fun g=>Hs g) h
theorem J1 {l:List It}(h:aX l=true):aX (jV l)=true:=
 yX (by have:=BL l;omega) (fun r hr=>qD (Ad h) ((BM h r).1 hr).1) (G7 (DP l))
theorem Mj {l m:List It}(h:aX l=true)(hm:kF bJ m)(g:∀r,r∈m↔r∈bZ l/\∀q∈bZ l,q.1.1=r.1.1->bJ q.1 r.1=false):m=jV l:=
 zN cQ hm (G7 (DP l)) fun r=>by rw[g,BM h]
open Go.RowKit
def gI (l:List It)(j:Nat):It:=(l[j]?).getD ((0,0),0)
def qA (l:List It)(j:Nat):Bool:=decide (j=0\/¬(gI l j).1.1=(gI l (j-1)).1.1)
def mK (l:List It)(m:Nat):List It:=((qV m).filter (qA l)).map (gI l)
theorem qP {l:List It}(h:j<l.length):l[j]?=some (gI l j):=by
 unfold gI;rw[fM h];rfl
theorem AT (l:List It)(m:Nat):mK l (m+1)=mK l m++(if qA l m then [gI l m] else []):=by
 unfold mK;rw[List.range_succ,gM,nB]
 congr 1
 by_cases h:qA l m<;>simp[h]
theorem LD (l:List It)(m:Nat)(hm:m<=l.length):(qV m).map (gI l)=l.take m:=by
 apply List.ext_getElem?
 intro i
 by_cases hi:i<m
 ·rw[sD,if_pos hi,qP (show i<l.length by omega)];simp[hi]
 ·rw[sD,if_neg hi,List.getElem?_eq_none (by simp;omega)]
theorem Bu {l:List It}(hm:m<=l.length)(h:∀j,j<m->qA l j=true):mK l m=l.take m:=by
 unfold mK;rw[List.filter_eq_self.2 (fun j g=>h j (tK.1 g)),LD l m hm]
theorem Hg (l:List It):(mK l l.length).Sublist l:=by
 have h:(mK l l.length).Sublist ((qV l.length).map (gI l)):=List.Sublist.map _ List.filter_sublist;rw[LD l _ (S4 _),fQ]at h;exact h
theorem Ke {l:List It}(hm:0<m)(h1:(gI l m).1.1=(gI l (m-1)).1.1):qA l m=false:=by
 have:m≠0:=by omega
 simp[qA,h1,this]
theorem CH {l:List It}(h:j<1):qA l j=true:=by
 have:j=0:=by omega
 simp[qA,this]
theorem CI {l:List It}(h:¬(gI l m).1.1=(gI l (m-1)).1.1):qA l m=true:=by
 unfold qA;exact decide_eq_true (.inr h)
theorem OQ (l:List It)(r:It):r∈mK l l.length↔∃j,j<l.length/\qA l j=true/\l[j]?=some r:=by
 unfold mK;rw[tL];constructor
 ·rintro⟨j,g,rfl⟩;obtain⟨h1,h2⟩:=gQ.1 g;have:=tK.1 h1;exact⟨j,this,h2,qP this⟩
 ·rintro⟨j,h1,h2,h3⟩;refine⟨j,gQ.2 ⟨tK.2 h1,h2⟩,?_⟩;rw[qP h1]at h3;exact SC h3
theorem zO {l:List It}(h:kF bJ l){a b:It}(g:i<j)(ha:l[i]?=some a)(B:l[j]?=some b):bJ a.1 b.1=true:=by
 obtain⟨hi,H⟩:=iM.1 ha;obtain⟨A,G⟩:=iM.1 B;have:=(jO.1 h) i j hi A g;rw[H,G]at this;exact this
theorem MJ {l:List It}(h:aX l=true):mK (bZ l) (bZ l).length=jV l:=by
 have hs:=xF (qL h);refine Mj h (hs.sublist (Hg _)) fun r=>?_;rw[OQ];generalize bZ l=o at*;constructor
 ·rintro⟨j,B,J,hr⟩;refine⟨gX hr,fun q hq e=>?_⟩;obtain⟨i,hi,I⟩:=oU hq;have g:o[i]?=some q:=by rw[fM hi,I]
  by_cases M:i<j
  ·exfalso
   have L:j≠0:=by omega
   simp only[qA,decide_eq_true_eq]at J;have hne:=J.resolve_left L;have hp:=qP (l:=o) (j:=j-1) (by omega);have G:gI o j=r:=by rw[qP B]at hr;exact SC hr
   have h1:=zO hs (show j-1<j by omega) hp hr;rw[G]at hne
   by_cases h0:i=j-1
   ·subst h0;rw[g]at hp;rw[<- SC hp]at hne;exact hne e.symm
   ·have h2:=zO hs (show i<j-1 by omega) g hp;simp[bJ]at h1 h2;omega
  ·by_cases h0:i=j
   ·subst h0;rw[hr]at g;cases g;exact cQ.irr _
   ·have h1:=zO hs (show j<i by omega) hr g;cases h2:bJ q.1 r.1
    ·rfl
    ·have:=cQ.trans _ _ _ h1 h2;rw[cQ.irr]at this;cases this
 ·rintro⟨hr,H⟩;obtain⟨j,B,I⟩:=oU hr;have A:o[j]?=some r:=by rw[fM B,I]
  refine⟨j,B,?_,A⟩
  by_cases h0:j=0
  ·exact CH (by omega)
  ·refine CI fun e=>?_;have hp:=qP (l:=o) (j:=j-1) (by omega);have G:gI o j=r:=by rw[qP B]at A;exact SC A
   rw[G]at e;have h1:=zO hs (show j-1<j by omega) hp A;have h2:=H _ (gX hp) e.symm;rw[h2]at h1;cases h1
structure vC (l:List It)(i j:Nat)(c:Array Rm):Prop where
 lt:i<j
 le:j<=l.length
 len:(mK l j).length=i
 low:jJ nQ 3 c (mK l j) i
 high:∀m,i<=m->m<l.length->∀q,q<3->c[m*3+q]?=(nQ (gI l m))[q]?
theorem vC.start {l:List It}(B:k<l.length)(A:qA l k=false)(g:∀i,i<k->qA l i=true)(hf:jJ nQ 3 c l l.length):vC l k (k+1) c:=by
 have e:mK l (k+1)=l.take k:=by
  rw[AT,A,Bu (by omega) g];simp
 refine⟨by omega,B,by rw[e,mO];omega,fun i x hi hx=>?_,fun m _ hm q hq=>hf m _ hm (qP hm) q hq⟩;rw[e,sD,if_pos hi]at hx;exact hf i x (by omega) hx
theorem vC.skip {l:List It}(h:vC l i j c)(A:j<l.length)(g:qA l j=false):vC l i (j+1) c:=by
 have e:mK l (j+1)=mK l j:=by rw[AT,g];simp
 exact⟨by have:=h.lt;omega,A,by rw[e];exact h.len,by rw[e];exact h.low,h.high⟩
theorem vC.keep {l:List It}(h:vC l i j c)(G:j<l.length)(hs:l.length*3<=c.size)(B:qA l j=true)(hg:gI l j=((K,V),D)):
  vC l (i+1) (j+1) (((c.setIfInBounds (i*3) (.int .i64 K)).setIfInBounds (i*3+1) (.int .i64 V)).setIfInBounds (i*3+2) (.int .i64 D)):=by
 have H:=h.lt;have g:=h.len;have e:mK l (j+1)=mK l j++[((K,V),D)]:=by rw[AT,B,hg];rfl
 refine⟨by omega,G,by rw[e,gD];simp[g],fun a x ha hx q hq=>?_,fun m a b q hq=>?_⟩
 ·rw[e]at hx
  by_cases A:a<i
  ·rw[List.getElem?_append_left (by omega)]at hx;rw[Rx,if_neg (by omega),Rx,if_neg (by omega),Rx,if_neg (by omega)];exact h.low a x A hx q hq
  ·obtain rfl:a=i:=by omega
   rw[List.getElem?_append_right (by omega)]at hx;simp[g]at hx;subst hx;obtain rfl|rfl|rfl:q=0\/q=1\/q=2:=by omega
   ·rw[Rx,if_neg (by omega),Rx,if_neg (by omega),Rx,if_pos (by omega),if_pos (by omega)];rfl
   ·rw[Rx,if_neg (by omega),Rx,if_pos (by omega),if_pos (by simp;omega)];rfl
   ·rw[Rx,if_pos (by omega),if_pos (by simp;omega)];rfl
 ·rw[Rx,if_neg (by omega),Rx,if_neg (by omega),Rx,if_neg (by omega)];exact h.high m (by omega) b q hq
theorem Ij (k v d:Int)(w:Rk):Ro AP 142 #[iv k v d] w fun e A=>e=.returned (.bool (m7 ((k,v),d)))/\Ry w.heap.size w A:=by
 have H:Hid (m7 ((k,v),d)=((cG k 0 3&&cG v 0 99)&&decide (d≠0)&&decide (-1099511627776<=d/\d<=1099511627776))):=rfl;have g:Ry w.heap.size w (w.alloc (.cells #[.int .i64 k,.int .i64 v,.int .i64 d] 98)):=aH (S1 _ _) _;cases h1:(cG k 0 3&&cG v 0 99)
 ·go_enter Df,C5
  go_wp2_with (go_at_call 194;refine (lE (by with_reducible assumption) _).mono ?_;rintro e A ⟨rfl,rfl⟩)
  go_ret;exact⟨rB (by rw[H.out,h1];rfl),g⟩
 by_cases h3:d=0
 ·subst h3;go_enter Df,C5
  go_wp2_with (go_at_call 194;refine (lE (by with_reducible assumption) _).mono ?_;rintro e A ⟨rfl,rfl⟩)
  go_ret;exact⟨rB (by rw[H.out];simp),g⟩
 have G:(d==0)=false:=by simpa using h3
 have B:Hid (m7 ((k,v),d)=decide (-1099511627776<=d/\d<=1099511627776)):=by
  show _=_
  rw[H.out,h1];have:decide (d≠0)=true:=by simpa using h3
  rw[this];simp
 by_cases h4: -1099511627776<=d
 ·by_cases h5:d<=1099511627776
  all_goals
   go_enter Df,C5
   go_wp2_with (go_at_call 194;refine (lE (by with_reducible assumption) _).mono ?_;rintro e A ⟨rfl,rfl⟩)
   go_ret;exact⟨rB (by have e:(d != 0)=true:=bne_iff_ne.2 h3;rw[B.out,e,Bool.eq_iff_iff];(simp<;>omega)),g⟩
 ·go_enter Df,C5
  go_wp2_with (go_at_call 194;refine (lE (by with_reducible assumption) _).mono ?_;rintro e A ⟨rfl,rfl⟩)
  go_ret;exact⟨rB (by rw[B.out];simp;omega),g⟩
theorem tZ {k v:Int}{r:Bool}(h:m7 ((k,v),d)=r)(w:Rk):Ro AP 142 #[iv k v d] w fun e g=>e=.returned (.bool r)/\Ry w.heap.size w g:=by
 rw[<- h];exact Ij k v d w
theorem qN {k v g v' A r:Int}(h:y9 (k,v) (g,v')=r)(w:Rk):Ro AP 143 #[iv k v d,iv g v' A] w fun e B=>e=.returned (.int .i64 r)/\Ry w.heap.size w B:=by
 rw[<- h,<-Hf];exact (yA k v d g v' A w).mono fun _ _ ⟨h1,h2⟩=>⟨h1,h2.1⟩
theorem GA {l:List It}(h:∀j,j<k->jE l j=true)(g:jE l k=true)(A:j<k+1):jE l j=true:=by
 by_cases e:j=k
 ·subst e;exact g
 ·exact h j (by omega)
theorem LW {l:List It}{r:It}(hr:l[k]?=some r)(h:m7 r=false):jE l k=false:=by
 unfold jE;rw[hr];simp[h]
theorem rM (v:Rm)(l:List It)(w:Rk)(h:Is w v l):
  Ro AP 73 #[v] w fun e w'=>e=.returned (.bool (aX l))/\Ry w.heap.size w w':=by
 obtain⟨a,z8,rfl,hc,hm,hn,I⟩:=Is.open h;unfold maxLen at hm;have HC:=(show Hid _ from I);clear I h
 by_cases x2:400<l.length
 ·have H:Hid (aX l=false):=NT x2;have y4:(400:Int)<(l.length:Int):=by omega
  go_enter Ri,RW;go_wp2_with fail;go_ret;exact⟨rB H.out.symm,S1 _ _⟩
 have HY:Hid ((∀i,i<l.length->jE l i=true)->aX l=true):=fun h=>LN (by omega) h;have HN:Hid (∀i,i<l.length->jE l i=false->aX l=false):=fun i h1 h2=>QI h1 h2;go_enter Ri,RW;go_wp2_with fail
 go_loopw [10] (fun i wr=>∃k:Nat,k<=l.length/\i=.int .i64 k/\(∀j,j<k->jE l j=true)/\Ry w.heap.size w wr) (fun i _=>l.length-(intOf i).toNat)
 case atStart=>exact⟨0,by omega,rfl,fun j U=>by omega,S1 _ _⟩
 case round=>
  obtain⟨k,hk,rfl,Y,S⟩:=hrel;have HA:=(show Hid _ from Y);clear Y
  by_cases T:k<l.length
  ·obtain⟨g,off,K,V,D,rfl,hg,hr,c0,c1,c2⟩:=HC.out k T;have d0:=cB S c0;have d1:=cB S c1;have d2:=cB S c2;have HR:=(show Hid _ from hr);clear c0 c1 c2 hr;have ik:((k:Int)<(l.length:Int)):=by omega
   have M:=Bk.new (w:=wr) #[.int .i64 K,.int .i64 V,.int .i64 D] 98 rfl;have x0:Ry wr.heap.size wr (wr.alloc (.cells #[.int .i64 K,.int .i64 V,.int .i64 D] 98)):=aH (S1 _ _) _;have G:=aG S x0
   go_upto_region 6 with fail
   clear d0 d1 d2;generalize wr.heap.size=tb at*;generalize SB _ _=J at*;have t0:∀p:eC J,p.ww.cell? ⟨tb,0,none⟩=some (.int .i64 K):=fun p=>(M.keep p.below).three.1;have t1:∀p:eC J,p.ww.cell? ⟨tb,1,none⟩=some (.int .i64 V):=fun p=>(M.keep p.below).three.2.1;have t2:∀p:eC J,p.ww.cell? ⟨tb,2,none⟩=some (.int .i64 D):=fun p=>(M.keep p.below).three.2.2;have hne:=lG J;clear M x0 S;cases hI:m7 ((K,V),D)
   ·have H:Hid (aX l=false):=HN.out k T (LW HR.out hI);go_wp2_with fail
    (refine lF (by kernel_rfl) (by kernel_rfl) ?_;(repeat (go_big_quiet_step ((first|(go_at_call 142;exact jS (tZ (by with_reducible assumption) _))|(go_at_call 143;exact jS (qN (by with_reducible assumption) _))))));refine Rq ?_)
    intro w1 A
    replace A:=kU A
    go_wp2_with fail;go_ret;exact⟨rB H.out.symm,aG G A⟩
   rcases k with _|m
   ·have O:Hid (jE l 0=true):=by show _=true;rw[AJ HR.out];exact hI
    go_wp2_with fail
    (refine lF (by kernel_rfl) (by kernel_rfl) ?_;(repeat (go_big_quiet_step ((first|(go_at_call 142;exact jS (tZ (by with_reducible assumption) _))|(go_at_call 143;exact jS (qN (by with_reducible assumption) _))))));refine Rq ?_)
    intro w1 A
    replace A:=kU A
    have W:=aG G A;go_wp2_with fail;exact⟨⟨1,by omega,rfl,fun j U=>GA HA.out O.out U,W⟩,by simp[intOf];omega⟩
   ·obtain⟨g',y6,K',Z,D',he,z7,hq,p0,p1,p2⟩:=HC.out m (by omega);simp at he;obtain⟨rfl,rfl⟩:=he;have e0:∀p:eC J,p.ww.cell? ⟨g,off+m*3,none⟩=some (.int .i64 K'):=fun p=>cB p.below (cB G p0);have e1:∀p:eC J,p.ww.cell? ⟨g,off+m*3+1,none⟩=some (.int .i64 Z):=fun p=>cB p.below (cB G p1);have e2:∀p:eC J,p.ww.cell? ⟨g,off+m*3+2,none⟩=some (.int .i64 D'):=fun p=>cB p.below (cB G p2);clear p0 p1 p2;have O:Hid (jE l (m+1)=bJ (K',Z) (K,V)):=by show _=_;rw[xJ HR.out hq,hI,Bool.true_and]
    clear hq;have z5:(0:Int)<=(m:Int):=by omega
    have z4:(m:Int)<(l.length:Int):=by omega
    have z3:(l.length:Int)<=2097152:=by omega
    have iw:S0.wrap (m:Int)=(m:Int):=by rw[Rz];omega
    have B:=He (K',Z) (K,V);obtain⟨r,y0⟩:∃r,y9 (K',Z) (K,V)=r:=⟨_,rfl⟩;rw[y0]at B;cases L:bJ (K',Z) (K,V)
    ·have H:Hid (aX l=false):=HN.out (m+1) T (by rw[O.out];exact L);have nr:decide (0<=r)=true:=by rw[L]at B;simp at B ⊢;omega
     clear B;go_wp2_with fail
     (refine lF (by kernel_rfl) (by kernel_rfl) ?_;(repeat (go_big_quiet_step ((first|(go_at_call 142;exact jS (tZ (by with_reducible assumption) _))|(go_at_call 143;exact jS (qN (by with_reducible assumption) _))))));refine Rq ?_)
     intro w1 A
     replace A:=kU A
     go_wp2_with fail;go_ret;exact⟨rB H.out.symm,aG G A⟩
    ·have H:Hid (jE l (m+1)=true):=by show _=true;rw[O.out];exact L
     have nr:decide (0<=r)=false:=by rw[L]at B;simp at B ⊢;omega
     clear B;go_wp2_with fail
     (refine lF (by kernel_rfl) (by kernel_rfl) ?_;(repeat (go_big_quiet_step ((first|(go_at_call 142;exact jS (tZ (by with_reducible assumption) _))|(go_at_call 143;exact jS (qN (by with_reducible assumption) _))))));refine Rq ?_)
     intro w1 A
     replace A:=kU A
     have W:=aG G A;go_wp2_with fail;go_roundw
     case rel=>exact⟨m+1+1,by omega,by go_num,fun j U=>GA HA.out H.out U,W⟩
     case measure=>simp[intOf];omega
  ·have H:Hid (aX l=true):=HY.out fun j U=>HA.out j (by omega);go_wp2_with fail;go_ret;exact⟨rB H.out.symm,S⟩
theorem cH {l:List It}{r:Bool}(h:aX l=r)(hs:Is w v l):
  Ro AP 73 #[v] w fun e g=>e=.returned (.bool r)/\Ry w.heap.size w g:=by
 rw[<- h];exact rM v l w hs
theorem Kr {l:List It}(h:l[k]?=some (s,d)):dY (l.take (k+1))=dY (l.take k)++[(s,-d)]:=by
 unfold dY;rw[fK h,nB];rfl
theorem tC {l:List It}(h:l[k]?=some (s,d))(hd:0<d):bZ (l.take (k+1))=bZ (l.take k)++[(s,1)]:=by
 unfold bZ;rw[fK h,gM,nB];simp[hd]
theorem zJ {l:List It}(h:l[k]?=some (s,d))(hd:¬0<d):bZ (l.take (k+1))=bZ (l.take k):=by
 unfold bZ;rw[fK h,gM,nB];simp[hd]
theorem EG {l:List It}(h:aX l=true)(hr:l[k]?=some (s,d)): -1099511627776<=d/\d<=1099511627776:=by
 have:=mW (qD h (gX hr));exact⟨this.2.2.2.2.2.1,this.2.2.2.2.2.2⟩
theorem BD (v:Rm)(l:List It)(w:Rk)(h:Is w v l):
  Ro AP 146 #[v] w fun e T=>∃o:Rm,e=.returned o/\aQ T w.heap.size o (nM l)/\Ry w.heap.size w T:=by
 cases G:aX l
 ·have HF:Hid (nM l=[]):=Mk G;go_enter Rh,Qz;go_wp2_with fail;refine (cH G h).mono ?_;rintro e w1 ⟨rfl,B⟩;go_wp2_with fail;go_ret;refine⟨_,rfl,?_,B⟩;rw[HF.out];exact oN _ _ _ _ _
 have HF:Hid (nM l=dY l):=yN G;have hl:=dF G;have HD:Hid (∀(k:Nat)(s:Int×Int)(d:Int),l[k]?=some (s,d) -> -1099511627776<=d/\d<=1099511627776):=fun k s d hr=>EG G hr;go_enter Rh,Qz;go_wp2_with fail;refine (cH G h).mono ?_;rintro e w1 ⟨rfl,B⟩;have U:=B.size;obtain⟨a,y3,rfl,hc,hm,hn,A⟩:=Is.open (h.keep B);unfold maxLen at hm;have HC:=(show Hid _ from A);clear A h G;go_wp2_with fail
 go_loopw [3,11] (fun o i wr=>∃k:Nat,k<=l.length/\i=.int .i64 k/\aQ wr w1.heap.size o (dY (l.take k))/\Ry w1.heap.size w1 wr) (fun _ i _=>l.length-(intOf i).toNat)
 case atStart=>exact⟨0,by omega,rfl,oN _ _ _ _ _,S1 _ _⟩
 case round=>
  obtain⟨k,y0,rfl,I,H⟩:=hrel;have M:Hid (aQ wr w1.heap.size u3 (dY (l.take k))):=I;clear I;have x7:=H.size
  by_cases W:k<l.length
  ·obtain⟨g,off,K,V,D,rfl,hg,hr,Z,c1,c2⟩:=HC.out k W;have HZ:=(show Hid _ from Kr hr);obtain⟨y2,y1⟩:=HD.out k _ _ hr;have iw:S0.wrap (-D) = -D:=by rw[Rz];omega
   have d0:=cB H Z;have d1:=cB H c1;have d2:=cB H c2;have ik:((k:Int)<(l.length:Int)):=by omega
   have hL:(dY (l.take k)).length<=1000000:=by simp[dY];omega
   have bx:=Bk.new (w:=wr) #[.int .i64 K,.int .i64 V,.int .i64 D] 98 rfl;have O:Ry w1.heap.size w1 (wr.alloc (.cells #[.int .i64 K,.int .i64 V,.int .i64 D] 98)):=aH H _;have L:aQ (wr.alloc (.cells #[.int .i64 K,.int .i64 V,.int .i64 D] 98)) w1.heap.size u3 (dY (l.take k)):=M.out.alloc _;have x8:=O.size;clear Z c1 c2 hr M;generalize dY (l.take k)=LL at*
   go_upto_region 7 with fail
   clear d0 d1 d2;generalize wr.heap.size=tb at*;generalize SB _ _=wx at*;obtain⟨q0,q1,q2⟩:=bx.three
   go_wp2_with (at_builtin;refine uU _ rfl _ _ rfl w1.heap.size _ LL rfl (L.alloc _) _ K V (-D) rfl (Bk.new _ _ rfl) (by omega) (by simp;omega) ?_;intro g9 x1 w9 S J x9)
   have Y:Ry w1.heap.size w1 w9:=Below.aU (aH O _) J (by simp;omega) (bU L);exact⟨⟨k+1,by omega,by go_num,by rw[HZ.out];exact S,Y⟩,by simp[intOf];omega⟩
  ·obtain rfl:k=l.length:=by omega
   have L:Hid (aQ wr w1.heap.size u3 (dY l)):=by have:=M.out;rw[fQ]at this;exact this
   clear M;go_wp2_with fail;go_ret;refine⟨_,rfl,?_,aG B H⟩;rw[HF.out];exact cW L.out U
theorem tY (v:Rm)(l:List It)(w:Rk)(h:Is w v l):
  Ro AP 199 #[v] w fun e W=>∃o:Rm,e=.returned o/\aQ W w.heap.size o (mM l)/\Ry w.heap.size w W:=by
 cases G:aX l
 ·have HF:Hid (mM l=[]):=FM G;go_enter Re,M1;go_wp2_with fail;refine (cH G h).mono ?_;rintro e w1 ⟨rfl,B⟩;go_wp2_with fail;go_ret;refine⟨_,rfl,?_,B⟩;rw[HF.out];exact oN _ _ _ _ _
 have HF:Hid (mM l=bZ l):=uH G;have hl:=dF G;go_enter Re,M1;go_wp2_with fail;refine (cH G h).mono ?_;rintro e w1 ⟨rfl,B⟩;have Y:=B.size;obtain⟨a,y7,rfl,hc,hm,hn,A⟩:=Is.open (h.keep B);unfold maxLen at hm;have HC:=(show Hid _ from A);clear A h G;go_wp2_with fail
 go_loopw [3,11] (fun o i wr=>∃k:Nat,k<=l.length/\i=.int .i64 k/\aQ wr w1.heap.size o (bZ (l.take k))/\Ry w1.heap.size w1 wr) (fun _ i _=>l.length-(intOf i).toNat)
 case atStart=>exact⟨0,by omega,rfl,oN _ _ _ _ _,S1 _ _⟩
 case round=>
  obtain⟨k,y6,rfl,J,H⟩:=hrel;have O:Hid (aQ wr w1.heap.size u3 (bZ (l.take k))):=J;clear J;have y3:=H.size
  by_cases Z:k<l.length
  ·obtain⟨g,off,K,V,D,rfl,hg,hr,c0,c1,c2⟩:=HC.out k Z;have d0:=cB H c0;have d1:=cB H c1;have d2:=cB H c2;have ik:((k:Int)<(l.length:Int)):=by omega
   have hL:(bZ (l.take k)).length<=1000000:=by have:=xC (l.take k);simp at this;omega
   have bx:=Bk.new (w:=wr) #[.int .i64 K,.int .i64 V,.int .i64 D] 98 rfl;have L:Ry w1.heap.size w1 (wr.alloc (.cells #[.int .i64 K,.int .i64 V,.int .i64 D] 98)):=aH H _;have I:aQ (wr.alloc (.cells #[.int .i64 K,.int .i64 V,.int .i64 D] 98)) w1.heap.size u3 (bZ (l.take k)):=O.out.alloc _;have y4:=L.size;clear c0 c1 c2 O
   by_cases hD:0<D
   ·have T:=(show Hid _ from tC hr hD);clear hr;generalize bZ (l.take k)=LL at*
    go_upto_region 7 with fail
    clear d0 d1 d2;generalize wr.heap.size=tb at*;generalize SB _ _=U at*;obtain⟨q0,q1,q2⟩:=bx.three
    go_wp2_with (at_builtin;refine uU _ rfl _ _ rfl w1.heap.size _ LL rfl (I.alloc _) _ K V 1 rfl (Bk.new _ _ rfl) (by omega) (by simp;omega) ?_;intro g9 x9 w9 S M y5)
    have h9:Ry w1.heap.size w1 w9:=Below.aU (aH L _) M (by simp;omega) (bU I);exact⟨⟨k+1,by omega,by go_num,by rw[T.out];exact S,h9⟩,by simp[intOf];omega⟩
   ·have T:=(show Hid _ from zJ hr hD);clear hr
    go_upto_region 7 with fail
    clear d0 d1 d2;generalize wr.heap.size=tb at*;generalize SB _ _=U at*;obtain⟨q0,q1,q2⟩:=bx.three;have O2:Hid (aQ U w1.heap.size u3 (bZ (l.take k))):=I;clear I;go_wp2_with fail;go_roundw
    case rel=>exact⟨k+1,by omega,by go_num,by rw[T.out];exact O2.out,L⟩
    case measure=>simp[intOf];omega
  ·obtain rfl:k=l.length:=by omega
   have I:Hid (aQ wr w1.heap.size u3 (bZ l)):=by have:=O.out;rw[fQ]at this;exact this
   clear O;go_wp2_with fail;go_ret;refine⟨_,rfl,?_,aG B H⟩;rw[HF.out];exact cW I.out Y
open Go.Shelf
theorem Py {l:List It}(h:Is w v l):∃(ad:Option Addr)(A:Nat),v=.slice ad l.length A/\(l≠[]->∃g off,ad=some ⟨g,off,none⟩/\∀j u,(l.flatMap nQ)[j]?=some u->w.cell? ((⟨g,off,none⟩:Addr).add j)=some u):=by
 obtain⟨a,A,rfl,M,hm,hn,h4⟩:=h;refine⟨a,A,rfl,fun hne=>?_⟩;have h0:0<l.length:=tM.2 hne;obtain⟨g,off,rfl,hg,_⟩:=h4 0 l[0] (fM h0);refine⟨g,off,rfl,fun j u G=>?_⟩;have L:j<l.length*3:=by
  have:=(iM.1 G).1
  rwa [lH nI]at this
 have hq:j / 3<l.length:=by omega
 obtain⟨O,J,e,_,c⟩:=h4 (j / 3) l[j / 3] (fM hq);simp only[SE.injEq,Addr.mk.injEq]at e;obtain⟨rfl,rfl,_⟩:=e;have B:=c (j%3) (S6 _ (by omega));have I:=qH nI l (fM hq) (j:=j%3) (S6 _ (by omega));have H:j / 3*3+j%3=j:=by omega
 rw[H]at I;rw[Nat.add_assoc,H]at B;rw[Go.WideShapes.add_plain];rw[B,<-I,G]
theorem QC (l:List It):∀u∈l.flatMap nQ,u.oneCell'=true:=by
 intro u g;obtain⟨r,_,hr⟩:=List.mem_flatMap.1 g;exact J8 r u hr
theorem LV (ad:Option Addr)(c:Nat):_root_.Go.Src AP 3 35 (.slice ad 0 c) 0 [] w:=by
 cases ad with
 | none=>exact _root_.Go.Src.ofNil w AW c
 | some a=>exact _root_.Go.Src.ofSlice w AW a 0 c [] rfl (by simp) (by simp)
theorem Jg {B:Nat}{l:List It}(h:aQ w B v l)(ad:Option Addr)(c:Nat)(A:TypeId):(Rv.append_ #[35,35] A #[v,.slice ad 0 c]).run AP w=.ok v w:=by
 obtain⟨i0,hi,J,G,I⟩:=Rt BG;have hs:_root_.Go.Src AP i0.size 35 (.slice ad 0 c) 0 [] w:=by rw[G];exact LV ad c
 rcases fX h nI with⟨rfl,rfl⟩|⟨g,H,S,rfl,hg,O,L,M,hm,_⟩
 ·simp[Rv.append_,run_underlying AW,sizeOf,typeInfo,hi,hs.len,hs.cells]
 ·have:=run_append_room_src (P:=AP) w 35 35 A 98 i0 AW hi g 0 l.length H _ 0 [] hs (by omega) (by simp) (by simp);exact this
section
variable {ops:Array Oper}{rest:List Oper}{o:Oper}{a:Act}{Q:Exit->Act->Rk->Prop}
theorem EB (w:Rk)(L:o.guard=none)(s x:Operand)(ho:o.op=.call { callee:= .builtin .append,args:=#[s,x],argTypes:=#[35,35] })
  (A:Nat) (v:Rm) (l:List It) (hs:a.eval s=v) (B:aQ w A v l) (U:Rm) (m:List It) (hx:a.eval x=U) (hR:Is w U m) (hl:l.length+m.length<=2000000) (J:A<=w.heap.size)
  (h:∀v' G,aQ G A v' (l++m)->w.grownBy G v.ownBlock->wpList AP ops Q rest (a.put o.dst v') G):
  wpList AP ops Q (o::rest) a w:=by
 obtain⟨i0,hi,Z,Y,W⟩:=Rt BG;obtain⟨ad,M,rfl,O⟩:=Py hR
 by_cases H:m=[]
 ·subst H;refine wpList_plain L fun K' h9=>?_;have S:=Jg B ad M o.type;unfold Oper.wp;simp[execOp,ho,resolve,invoke,builtin,hs,hx,S,Result.andThen];exact h9 _ _ (h v w (by simpa using B) ⟨rfl,rfl,rfl,S4 _,fun _ _ _=>rfl⟩)
 ·obtain⟨g,off,rfl,I⟩:=O H;have T:0<m.length:=tM.2 H;refine wpList_append_lies w L s x 35 ho A 98 i0 _ 3 24 AW hi Z Y W rfl (by decide) v l.length (l.flatMap nQ) hs B ⟨g,off,none⟩ m.length M (m.flatMap nQ) hx (lH nI m) I (QC m) T (by unfold maxLen;omega) (by omega) J w.heap.size rfl ?_;intro g' x1 G h1 h2 _ _;refine h _ G ?_ h2
  show G.ownsRow _ _ _ _ _ _
  rw[List.flatMap_append,gD];exact h1
end
theorem kM {l:List It}(h:aX l=true)(k:Nat):aJ (l.take k)<=1099511627776*400:=S8 (pZ l k) (CQ h)
theorem Aa {l:List It}(h:l[k]?=some ((K,V),D))(e:K=key):bY (l.take (k+1)) key=bY (l.take k) key+D:=by
 rw[fK h,pK];simp[e]
theorem CG {l:List It}(h:l[k]?=some ((K,V),D))(e:K≠key):bY (l.take (k+1)) key=bY (l.take k) key:=by
 rw[fK h,pK];simp[e]
theorem Kq (n:Int):((n.tmod 100)+100)%100=n%100:=by
 have h1:=Int.tmod_add_mul_tdiv n 100;omega
theorem BY {l:List It}(hr:l[k]?=some ((K,V),D))(A:K≠key):((bZ (l.take (k+1))).filter fun r=>decide (r.1.1=key))=((bZ (l.take k)).filter fun r=>decide (r.1.1=key)):=by
 by_cases g:0<D
 ·rw[tC hr g,gM];simp[A]
 ·rw[zJ hr g]
theorem Ga (n:Int)(w:Rk):Ro AP 269 #[.int .i64 n] w fun e g=>e=.returned (.int .i64 (n%100))/\Ry w.heap.size w g:=by
 have B:=S9 n (b:=100) (by omega);have A: -100<n.tmod 100:=by have:=SA n (b:=100) (by omega);omega
 have H:=(show Hid _ from Kq n);go_enter Tryz.func269,Tryz.ntmps269;go_wp2_with fail;go_ret;exact⟨I0 H.out,S1 _ _⟩
theorem pT (n:Int)(w:Rk):Ro AP 235 #[.int .i64 n] w fun e g=>e=.returned (.int .i64 (n%100))/\Ry w.heap.size w g:=by
 have B:=S9 n (b:=100) (by omega);have A: -100<n.tmod 100:=by have:=SA n (b:=100) (by omega);omega
 have H:=(show Hid _ from Kq n);go_enter Tryz.func235,Tryz.ntmps235;go_wp2_with fail;go_ret;exact⟨I0 H.out,S1 _ _⟩
theorem Oi (v:Rm)(l:List It)(key:Int)(w:Rk)(h:Is w v l)(hs:aX l=true):
  Ro AP 256 #[v,.int .i64 key,.int .i64 1] w fun e w'=>∃o:Rm,e=.returned o/\aQ w' w.heap.size o (kC l key)/\Ry w.heap.size w w':=by
 obtain⟨a,y7,rfl,hc,hm,hn,B⟩:=Is.open h;unfold maxLen at hm;have HC:=(show Hid _ from B);have hl:=dF hs;have HD:Hid (∀(k:Nat)(s:Int×Int)(d:Int),l[k]?=some (s,d) -> -1099511627776<=d/\d<=1099511627776):=fun k s d hr=>EG hs hr;have HN:Hid (∀k:Nat,-(1099511627776*400)<=bY (l.take k) key/\bY (l.take k) key<=1099511627776*400):=fun k=>by
  have h1:=wS (l.take k) key;have h2:=kM hs k;omega
 clear B h hs;have oE:=jX w rfl;have O:=aH (S1 _ w) (.cells #[] 98);go_enter Fl,E8;go_wp2_with fail
 go_loopw [7,8,9] (fun o n i wr=>∃k:Nat,k<=l.length/\i=.int .i64 k/\n=.int .i64 (bY (l.take k) key)/\aQ wr w.heap.size o (([]:List It))/\Ry w.heap.size w wr) (fun _ _ i _=>l.length-(intOf i).toNat)
 case atStart=>exact⟨0,by omega,rfl,rfl,oE,O⟩
 case round=>
  clear oE O;obtain⟨k,y4,rfl,rfl,H,A⟩:=hrel;have I:Hid (aQ wr w.heap.size u7 (([]:List It))):=H;obtain⟨n1,n2⟩:=HN.out k;have y1:=A.size;clear H
  by_cases x1:k<l.length
  ·obtain⟨g,off,K,V,D,rfl,hg,hr,c0,c1,c2⟩:=HC.out k x1;obtain⟨y6,y5⟩:=HD.out k _ _ hr;have d0:=cB A c0;have d1:=cB A c1;have d2:=cB A c2;have ik:((k:Int)<(l.length:Int)):=by omega
   clear c0 c1 c2
   by_cases U:K=key
   ·subst U;have L:=(show Hid _ from Aa hr rfl);clear hr;generalize bY (l.take k) K=G at*
    by_cases hD:0<D
    ·go_wp2_with fail;go_roundw
     case rel=>exact⟨k+1,by omega,by go_num,by rw[L.out],I.out,A⟩
     case measure=>simp[intOf];omega
    ·go_wp2_with fail;go_roundw
     case rel=>exact⟨k+1,by omega,by go_num,by rw[L.out],I.out,A⟩
     case measure=>simp[intOf];omega
   ·have nK:(K==key)=false:=by simpa using U
    have L:=(show Hid _ from CG hr U);have HZ:Hid (([]:List It)=([]:List It)):=rfl;clear hr;generalize bY (l.take k) key=G at*;go_wp2_with fail;go_roundw
    case rel=>exact⟨k+1,by omega,by go_num,by rw[L.out],by rw[HZ.out];exact I.out,A⟩
    case measure=>simp[intOf];omega
  ·obtain rfl:k=l.length:=by omega
   have HK:Hid (kC l key=if bY (l.take l.length) key=0 then [] else [((key,bY (l.take l.length) key%100),1)]):=by show _=_;rw[fQ];rfl
   generalize bY (l.take l.length) key=G at*
   by_cases h0:G=0
   ·subst h0;have Y:Hid (aQ wr w.heap.size u7 (kC l key)):=by rw[HK.out,if_pos rfl];exact I.out
    go_wp2_with fail;go_ret;exact⟨_,rfl,Y.out,A⟩
   ·have n0:(G==0)=false:=by simpa using h0
    go_wp2_with fail;refine (Ga G _).mono ?_;rintro e w1 ⟨rfl,S⟩;have M:=aG A S;have y2:=M.size;have O2:aQ w1 w.heap.size u7 []:=cC I.out S
    go_wp2_with (at_builtin;refine uU _ rfl _ _ rfl w.heap.size _ [] rfl (O2.alloc _) _ key (G%100) 1 rfl (Bk.new _ _ rfl) (by simp) (by simp;omega) ?_;intro g9 W Z T J y3)
    have x2:Ry w.heap.size w Z:=Below.aU (aH M _) J (by simp;omega) (bU O2);have Y:Hid (aQ Z w.heap.size (.slice (some ⟨g9,0,none⟩) (([]:List It).length+1) W) (kC l key)):=by rw[HK.out,if_neg h0];exact T
    go_ret;exact⟨_,rfl,Y.out,x2⟩
theorem Oj (v:Rm)(l:List It)(key:Int)(w:Rk)(h:Is w v l)(hs:aX l=true):
  Ro AP 256 #[v,.int .i64 key,.int .i64 2] w fun e U=>∃o:Rm,e=.returned o/\aQ U w.heap.size o ((bZ l).filter fun r=>decide (r.1.1=key))/\Ry w.heap.size w U:=by
 obtain⟨a,y4,rfl,hc,hm,hn,A⟩:=Is.open h;unfold maxLen at hm;have HC:=(show Hid _ from A);have hl:=dF hs;have HD:Hid (∀(k:Nat)(s:Int×Int)(d:Int),l[k]?=some (s,d) -> -1099511627776<=d/\d<=1099511627776):=fun k s d hr=>EG hs hr;have HN:Hid (∀k:Nat,-(1099511627776*400)<=bY (l.take k) key/\bY (l.take k) key<=1099511627776*400):=fun k=>by
  have h1:=wS (l.take k) key;have h2:=kM hs k;omega
 clear A h hs;have W:=jX w rfl;have O:=aH (S1 _ w) (.cells #[] 98);go_enter Fl,E8;go_wp2_with fail
 go_loopw [7,8,9] (fun o n i wr=>∃k:Nat,k<=l.length/\i=.int .i64 k/\n=.int .i64 (bY (l.take k) key)/\aQ wr w.heap.size o ((bZ (l.take k)).filter fun r=>decide (r.1.1=key))/\Ry w.heap.size w wr) (fun _ _ i _=>l.length-(intOf i).toNat)
 case atStart=>exact⟨0,by omega,rfl,rfl,W,O⟩
 case round=>
  clear W O;obtain⟨k,y1,rfl,rfl,G,B⟩:=hrel;have I:Hid (aQ wr w.heap.size u7 ((bZ (l.take k)).filter fun r=>decide (r.1.1=key))):=G;obtain⟨n1,n2⟩:=HN.out k;have x9:=B.size;clear G
  by_cases Y:k<l.length
  ·obtain⟨g,off,K,V,D,rfl,hg,hr,c0,c1,c2⟩:=HC.out k Y;obtain⟨y3,y2⟩:=HD.out k _ _ hr;have d0:=cB B c0;have d1:=cB B c1;have d2:=cB B c2;have ik:((k:Int)<(l.length:Int)):=by omega
   clear c0 c1 c2
   by_cases L:K=key
   ·subst L;have M:=(show Hid _ from Aa hr rfl)
    by_cases hD:0<D
    ·have H:Hid (((bZ (l.take (k+1))).filter fun r=>decide (r.1.1=K))=((bZ (l.take k)).filter fun r=>decide (r.1.1=K))++[((K,V),1)]):=by show _=_;rw[tC hr hD,gM];simp
     have hL:((bZ (l.take k)).filter fun r=>decide (r.1.1=K)).length<=1000000:=by have h1:=jB (fun r:It=>decide (r.1.1=K)) (bZ (l.take k));have h2:=xC (l.take k);simp at h2;omega
     have O1:aQ wr w.heap.size u7 ((bZ (l.take k)).filter fun r=>decide (r.1.1=K)):=I.out;clear hr I;generalize ((bZ (l.take k)).filter fun r=>decide (r.1.1=K))=LL at*;generalize bY (l.take k) K=T at*
     go_wp2_with (at_builtin;refine uU _ rfl _ _ rfl w.heap.size _ LL rfl (O1.alloc _) _ K V 1 rfl (Bk.new _ _ rfl) (by omega) (by simp;omega) ?_;intro g9 x3 w9 S J y0)
     have Z:Ry w.heap.size w w9:=Below.aU (aH B _) J (by simp;omega) (bU O1);exact⟨⟨k+1,by omega,by go_num,by rw[M.out],by rw[H.out];exact S,Z⟩,by simp[intOf];omega⟩
    ·have H:Hid (((bZ (l.take (k+1))).filter fun r=>decide (r.1.1=K))=((bZ (l.take k)).filter fun r=>decide (r.1.1=K))):=by show _=_;rw[zJ hr hD]
     clear hr;generalize bY (l.take k) K=T at*;go_wp2_with fail;go_roundw
     case rel=>exact⟨k+1,by omega,by go_num,by rw[M.out],by rw[H.out];exact I.out,B⟩
     case measure=>simp[intOf];omega
   ·have nK:(K==key)=false:=by simpa using L
    have M:=(show Hid _ from CG hr L);have H:Hid (((bZ (l.take (k+1))).filter fun r=>decide (r.1.1=key))=((bZ (l.take k)).filter fun r=>decide (r.1.1=key))):=by show _=_;rw[BY hr L]
    clear hr;generalize bY (l.take k) key=T at*;go_wp2_with fail;go_roundw
    case rel=>exact⟨k+1,by omega,by go_num,by rw[M.out],by rw[H.out];exact I.out,B⟩
    case measure=>simp[intOf];omega
  ·obtain rfl:k=l.length:=by omega
   have HR:Hid (aQ wr w.heap.size u7 ((bZ l).filter fun r=>decide (r.1.1=key))):=by have:=I.out;rw[fQ]at this;exact this
   generalize bY (l.take l.length) key=T at*;go_wp2_with fail;go_ret;exact⟨_,rfl,HR.out,B⟩
theorem Ok (v:Rm)(l:List It)(key:Int)(w:Rk)(h:Is w v l)(hs:aX l=true):
  Ro AP 256 #[v,.int .i64 key,.int .i64 3] w fun e w'=>∃o:Rm,e=.returned o/\aQ w' w.heap.size o (hZ l key)/\Ry w.heap.size w w':=by
 obtain⟨a,z1,rfl,hc,hm,hn,B⟩:=Is.open h;unfold maxLen at hm;have HC:=(show Hid _ from B);have hl:=dF hs;have HD:Hid (∀(k:Nat)(s:Int×Int)(d:Int),l[k]?=some (s,d) -> -1099511627776<=d/\d<=1099511627776):=fun k s d hr=>EG hs hr;have HN:Hid (∀k:Nat,-(1099511627776*400)<=bY (l.take k) key/\bY (l.take k) key<=1099511627776*400):=fun k=>by
  have h1:=wS (l.take k) key;have h2:=kM hs k;omega
 clear B h hs;have oE:=jX w rfl;have W:=aH (S1 _ w) (.cells #[] 98);go_enter Fl,E8;go_wp2_with fail
 go_loopw [7,8,9] (fun o n i wr=>∃k:Nat,k<=l.length/\i=.int .i64 k/\n=.int .i64 (bY (l.take k) key)/\aQ wr w.heap.size o (((bZ (l.take k)).filter fun r=>decide (r.1.1=key)).take 1)/\Ry w.heap.size w wr) (fun _ _ i _=>l.length-(intOf i).toNat)
 case atStart=>exact⟨0,by omega,rfl,rfl,oE,W⟩
 case round=>
  clear oE W;obtain⟨k,y7,rfl,rfl,L,A⟩:=hrel;have H:Hid (aQ wr w.heap.size u7 (((bZ (l.take k)).filter fun r=>decide (r.1.1=key)).take 1)):=L;obtain⟨n1,n2⟩:=HN.out k;have y5:=A.size;clear L
  by_cases x2:k<l.length
  ·obtain⟨g,off,K,V,D,rfl,hg,hr,c0,c1,c2⟩:=HC.out k x2;obtain⟨z0,y8⟩:=HD.out k _ _ hr;have d0:=cB A c0;have d1:=cB A c1;have d2:=cB A c2;have ik:((k:Int)<(l.length:Int)):=by omega
   clear c0 c1 c2
   by_cases U:K=key
   ·subst U;have M:=(show Hid _ from Aa hr rfl);have O:Hid (aQ wr w.heap.size u7 (((bZ (l.take k)).filter fun r=>decide (r.1.1=K)).take 1)):=H.out;have R0:Is wr u7 (((bZ (l.take k)).filter fun r=>decide (r.1.1=K)).take 1):=aQ.is H.out (by simp;omega);obtain⟨a7,h9,I,-,-,-,-⟩:=R0
    by_cases Z:0<D
    ·by_cases J:(((bZ (l.take k)).filter fun r=>decide (r.1.1=K)).take 1).length=0
     ·have h0:(bZ (l.take k)).filter (fun r=>decide (r.1.1=K))=[]:=by
       rw[mO]at J;exact List.eq_nil_of_length_eq_zero (by omega)
      have e0:(((bZ (l.take k)).filter fun r=>decide (r.1.1=K)).take 1)=[]:=by rw[h0];rfl
      have G:Hid ((((bZ (l.take (k+1))).filter fun r=>decide (r.1.1=K)).take 1)=[((K,V),1)]):=by show _=_;rw[tC hr Z,gM,h0];simp
      have O1:aQ wr w.heap.size u7 []:=by have:=H.out;rw[e0]at this;exact this
      have hu:u7=.slice a7 0 h9:=by rw[I,e0];rfl
      subst hu;clear hr H O J h0 e0 I;generalize bY (l.take k) K=S at*
      go_wp2_with (at_builtin;refine uU _ rfl _ _ rfl w.heap.size _ [] rfl (O1.alloc _) _ K V 1 rfl (Bk.new _ _ rfl) (by simp) (by simp;omega) ?_;intro g9 x8 w9 Y T y6)
      have x3:Ry w.heap.size w w9:=Below.aU (aH A _) T (by simp;omega) (bU O1);exact⟨⟨k+1,by omega,by go_num,by rw[M.out],by rw[G.out];exact Y,x3⟩,by simp[intOf];omega⟩
     ·have G:Hid ((((bZ (l.take (k+1))).filter fun r=>decide (r.1.1=K)).take 1)=(((bZ (l.take k)).filter fun r=>decide (r.1.1=K)).take 1)):=by
       show _=_
       rw[tC hr Z,gM,List.take_append_of_le_length (by rw[mO]at J;omega)]
      have nz:(((((bZ (l.take k)).filter fun r=>decide (r.1.1=K)).take 1).length:Int)==0)=false:=by simpa using J
      clear hr J H;generalize (((bZ (l.take k)).filter fun r=>decide (r.1.1=K)).take 1)=XX at*;subst I;generalize bY (l.take k) K=S at*;go_wp2_with fail;go_roundw
      case rel=>exact⟨k+1,by omega,by go_num,by rw[M.out],by rw[G.out];exact O.out,A⟩
      case measure=>simp[intOf];omega
    ·have G:Hid ((((bZ (l.take (k+1))).filter fun r=>decide (r.1.1=K)).take 1)=(((bZ (l.take k)).filter fun r=>decide (r.1.1=K)).take 1)):=by show _=_;rw[zJ hr Z]
     clear hr;subst I;generalize bY (l.take k) K=S at*;go_wp2_with fail;go_roundw
     case rel=>exact⟨k+1,by omega,by go_num,by rw[M.out],by rw[G.out];exact O.out,A⟩
     case measure=>simp[intOf];omega
   ·have nK:(K==key)=false:=by simpa using U
    have M:=(show Hid _ from CG hr U);have G:Hid ((((bZ (l.take (k+1))).filter fun r=>decide (r.1.1=key)).take 1)=((bZ (l.take k)).filter fun r=>decide (r.1.1=key)).take 1):=by show _=_;rw[BY hr U]
    clear hr;generalize bY (l.take k) key=S at*;go_wp2_with fail;go_roundw
    case rel=>exact⟨k+1,by omega,by go_num,by rw[M.out],by rw[G.out];exact H.out,A⟩
    case measure=>simp[intOf];omega
  ·obtain rfl:k=l.length:=by omega
   have HR:Hid (aQ wr w.heap.size u7 (hZ l key)):=by have:=H.out;rw[fQ]at this;exact this
   generalize bY (l.take l.length) key=S at*;go_wp2_with fail;go_ret;exact⟨_,rfl,HR.out,A⟩
def eO (f:Int->List It):Nat->List It
 | 0=>[]
 | k+1=>eO f k++f k
theorem M7 {f:Int->List It}{c:Nat}(h:∀k,(f k).length<=c)(k:Nat):(eO f k).length<=k*c:=by
 induction k with
 | zero=>simp[eO]
 | succ k ih=>have:=h k;simp only[eO,gD,S5];omega
theorem Jb (f:Int->List It):eO f 4=f 0++f 1++f 2++f 3:=by simp[eO]
open Go.ChangeMaps (setBlock)
theorem KH (n:Nat)(hn:n<=2000000)(w:Rk):
  Ro AP 231 #[.slice none 0 0,.int .i64 n] w fun e g=>∃v:Rm,e=.returned v/\aQ g w.heap.size v []/\Ry w.heap.size w g:=by
 obtain⟨i0,hi,H,L,B⟩:=Rt BG
 by_cases h0:n=0
 ·subst h0;refine (Any8.slices_Grow_room growI none 0 0 0 w (by omega) (by omega) (by omega) (by omega)).mono ?_;rintro e g ⟨rfl,rfl⟩;exact⟨_,rfl,oN _ _ _ _ _,S1 _ _⟩
 ·refine (Any8.slices_Grow_grow growI i0 _ hi H (by omega) none 0 0 n [] w (by omega) (by omega) (by rw[B];omega) (by omega) (by simp) (fun _=>rfl) (fun a ha=>by cases ha)).mono ?_;rintro e g ⟨rfl,rfl⟩;have I:=grownCap_ge w (0+n) 0 (growI_ren.t 25);have A:=grownCap_le_maxLen w (0+n) 0 (growI_ren.t 25) (by unfold maxLen;omega);generalize grownCap w (0+n) 0 (growI_ren.t 25)=G at I A ⊢;have J:(Rm.agg #[.int .i64 0,.int .i64 0,.int .i64 0]).cells.size=3:=by simp[Rm.cells]
  refine⟨_,rfl,⟨by simp,.inr ⟨w.heap.size,G,_,rfl,S4 _,heap_alloc_new w.drew _,Nat.zero_le _,A,?_,by simp⟩⟩,aH (S1 _ w).drew _⟩;simp only[Array.size_append,Rv.zeroCells,Array.size_map,Array.size_range,J];simp;omega
theorem MY {k:Int}{n:Nat}(h:k=(n:Int))(hn:n<=2000000)(w:Rk):
  Ro AP 231 #[.slice none 0 0,.int .i64 k] w fun e g=>∃v:Rm,e=.returned v/\aQ g w.heap.size v []/\Ry w.heap.size w g:=by
 subst h;exact KH n hn w
theorem GQ (g0:Nat)(Y W:Rm)(g A:List It)(w:Rk)(L:Bk w g0 #[Y,W] 35)(h1:Is w Y g)(h2:Is w W A)(hl:g.length+A.length<=2000000):
  Ro AP 195 #[.slice (some ⟨g0,0,none⟩) 2 2] w fun e w'=>∃o:Rm,e=.returned o/\aQ w' w.heap.size o (g++A)/\Ry w.heap.size w w':=by
 have H1:Hid (Is w Y g):=h1;have H2:Hid (Is w W A):=h2;obtain⟨a1,y7,rfl,_,_,_,_⟩:=h1;obtain⟨a2,y6,rfl,_,_,_,_⟩:=h2;obtain⟨c0,c1,_,_⟩:=L.two;go_enter Tryz.func195,Tryz.ntmps195;generalize O:g.length=n1 at*;generalize M:A.length=n2 at*;have q1:(0:Int)<=(n1:Int):=by omega
 have q2:(n1:Int)<=2000000:=by omega
 have q3:(0:Int)<=(n1:Int)+(n2:Int):=by omega
 have q4:(n1:Int)+(n2:Int)<=2000000:=by omega
 have q5:¬((n1:Int)<0):=by omega
 have q6:¬((n1:Int)+(n2:Int)<0):=by omega
 have E1:Hid (g.length=n1):=O;have E2:Hid (A.length=n2):=M;clear O M;go_wp2_with fail;refine Ru 3 ?_;rw[Rp];go_wp2_with fail;rw[Rp];go_wp2_with fail;rw[Rp];go_wp2_with fail;refine (MY (n:=n1+n2) (by omega) (by omega) _).mono ?_;rintro e w1 ⟨o1,rfl,J,G⟩;have U:=L.keep G;have R1:=H1.out.keep G;obtain⟨d0,d1,_,_⟩:=U.two;have z4:=G.size;have O1:Hid (aQ w1 w.heap.size o1 []):=J;clear J H1 c0 c1;go_wp2_with fail;refine Ru 3 ?_;rw[Rp]
 go_wp2_with (at_builtin;refine EB _ rfl _ _ rfl w.heap.size _ [] rfl O1.out _ g rfl R1 (by have:=E1.out;simp;omega) (by omega) ?_;intro v3 w3 I T)
 have B:Ry w.heap.size w w3:=Below.aU G T (by omega) (bU O1.out);have z3:=B.size;have R2:=H2.out.keep B;have Z:Hid (aQ w3 w.heap.size v3 g):=by show aQ _ _ _ _;simpa using I
 obtain⟨f0,f1,_,_⟩:=(L.keep B).two;clear I T U d0 d1 R1 O1 G H2 L;rw[Rp]
 go_wp2_with (at_builtin;refine EB _ rfl _ _ rfl w.heap.size _ g rfl Z.out _ A rfl R2 (by have:=E1.out;have:=E2.out;omega) (by omega) ?_;intro v5 w5 H S)
 have x3:Ry w.heap.size w w5:=Below.aU B S (by omega) (bU Z.out);have O5:Hid (aQ w5 w.heap.size v5 (g++A)):=H;clear H S f0 f1 R2 Z B;rw[Rp];go_wp2_with fail
 go_returns
 exact⟨_,rfl,O5.out,x3⟩
theorem Bx.cu {g:Nat}{a:Rk}(h:Bx g a w)(o:Obj):Bx g a (setBlock w g o):=
 h.trans ⟨rfl,rfl,rfl,by rw[oO];exact S4 _,fun _ _ hg=>fU hg⟩
theorem rW (h:jK s):thOk s:=by
 obtain⟨h1,h2,h3,h4⟩:=h;exact⟨by unfold nG;omega,by unfold nG;omega⟩
theorem kV {M L:List It}(b:Nat)(w:Rk)(g:bG gC thOk w b M)(B:M.length<=1000000)(G:∀s,aK M s=aK L s):
  Ro AP 107 #[.map (some b)] w fun e A=>∃o:Rm,e=.returned o/\aQ A w.heap.size o (aO bJ L)/\Ry w.heap.size w A:=by
 rw[<- lD cQ G];exact uY b M w g B
theorem BB (v v':Rm)(l l':List It)(w:Rk)(h:Is w v l)(h':Is w v' l'):
  Ro AP 145 #[v,v'] w fun e w'=>∃o:Rm,e=.returned o/\aQ w' w.heap.size o (kO l l')/\Ry w.heap.size w w':=by
 cases S:aX l
 ·have HF:Hid (kO l l'=[]):=Jq S;go_enter Ih,Fj;go_wp2_with fail;refine (cH S h).mono ?_;rintro e w1 ⟨rfl,A⟩;go_wp2_with fail;go_ret;refine⟨_,rfl,?_,A⟩;rw[HF.out];exact oN _ _ _ _ _
 cases B:aX l'
 ·have HF:Hid (kO l l'=[]):=Jr B;go_enter Ih,Fj;go_wp2_with fail;refine (cH S h).mono ?_;rintro e w1 ⟨rfl,A⟩;have W:=h'.keep A;go_wp2_with fail;refine (cH B W).mono ?_;rintro e G ⟨rfl,J⟩;go_wp2_with fail;go_ret;refine⟨_,rfl,?_,aG A J⟩;rw[HF.out];exact oN _ _ _ _ _
 have HF:Hid (kO l l'=aO bJ (l++l')):=Cx S B;have ha:aJ (l++l')<=879609302220800:=by rw[cV];have:=CQ S;have:=CQ B;omega
 have HA:Hid (aJ (l++l')<=879609302220800):=ha;have z5:Hid (∀r∈l++l',thOk r.1):=fun r hr=>rW (Qx (mN S) (mN B) r hr);have hl:=dF S;have f5:=dF B;have HH:Hid (Is w v l):=h;have z7:Hid (Is w v' l'):=h';obtain⟨a1,y5,rfl,-,-,-,-⟩:=h;obtain⟨a2,y4,rfl,-,-,-,-⟩:=h';clear ha;have a3:=@run_makeMap AP;go_enter Ih,Fj;go_wp2_with fail;refine (cH S HH.out).mono ?_;rintro e w1 ⟨rfl,A⟩;have h1:=HH.out.keep A;have W:=z7.out.keep A;clear HH z7;go_wp2_with fail;refine (cH B W).mono ?_;rintro e G ⟨rfl,J⟩;have x7:=aG A J;have a0:=x7.size;have m2:bG gC thOk (G.alloc (.map #[] 0)) G.heap.size []:=bG.new G rfl;have x2:Ry G.heap.size G (G.alloc (.map #[] 0)):=aH (S1 _ _) _;have h3:=(h1.keep J).keep x2;have z4:=(W.keep J).keep x2;have x0:(G.alloc (.map #[] 0)).heap.size=G.heap.size+1:=by simp
 clear h1 W A J S B
 go_upto_region 4 with fail
 clear a3;generalize f9:G.heap.size=H at*;generalize (G.alloc (.map #[] 0))=w3 at*;have I:Ry w3.heap.size w3 (w3.alloc (.cells #[.slice a1 l.length y5,.slice a2 l'.length y4] 35)):=aH (S1 _ _) _;have h4:=h3.keep I;have z3:=z4.keep I;have z1:=Bk.new (w:=w3) #[.slice a1 l.length y5,.slice a2 l'.length y4] 35 rfl;have m4:=m2.keep I;have c4:Hid (w3.heap.size=H+1):=x0;clear x0;go_wp2_with fail;refine (GQ _ _ _ l l' _ z1 h4 z3 (by omega)).mono ?_;rintro e Y ⟨o5,rfl,Z,x9⟩;have m5:=m4.keep x9;have h9:=aG I x9;have v0:=h9.size;have x0:=c4.out;have O5:aQ Y (H+1) o5 (l++l'):=cW Z (by have:=I.size;omega);have v1:Ry w.heap.size w Y:=x7.trans ((x2.trans (h9.mono (by omega))).mono (by omega));have a4:w.heap.size<=H:=a0;have d9:H<Y.heap.size:=by omega
 have R5:Is Y o5 (l++l'):=aQ.is Z (by simp;omega);obtain⟨a5,y3,rfl,-,a6,-,-⟩:=R5;unfold maxLen at a6;have d3:Hid (aQ Y (H+1) (.slice a5 (l++l').length y3) (l++l')):=O5;have g0:(l++l').length<=800:=by simp;omega
 clear Z O5 h3 z4 h4 z3 z1 m2 m4 I x9 h9 v0 x0 x2;generalize l++l'=L at*;go_wp2_with fail
 go_loopw [22] (fun i wr=>∃(k:Nat)(M:List It),k<=L.length/\i=.int .i64 k/\bG gC thOk wr H M/\(∀s,aK M s=aK (L.take k) s)/\M.length<=k/\Bx H Y wr) (fun i _=>L.length-(intOf i).toNat)
 case atStart=>exact⟨0,[],by omega,rfl,m5,fun s=>by simp,by simp,Bx.refl _ _⟩
 case round=>
  clear m5;obtain⟨k,M,f6,rfl,O,x5,f8,hx⟩:=hrel;have HT:=(show Hid _ from x5);clear x5;have f1:=hx.size
  by_cases a7:k<L.length
  ·have Rr:Is wr (.slice a5 L.length y3) L:=aQ.is (oX d3.out hx (by omega)) (by omega);obtain⟨g1,d4,ee,-,-,-,U⟩:=Is.open Rr;simp only[Rm.slice.injEq,true_and]at ee;obtain⟨rfl,rfl⟩:=ee;obtain⟨g,off,K,V,D,rfl,hg,hr,d0,d1,d2⟩:=U k a7;have HR:=(show Hid _ from hr);have x6:=z5.out _ (gX hr);dsimp only at x6;clear hr U Rr;have ik:((k:Int)<(L.length:Int)):=by omega
   have b3:=Bk.new (w:=wr) #[.int .i64 K,.int .i64 V,.int .i64 D] 98 rfl;have x8:Ry wr.heap.size wr (wr.alloc (.cells #[.int .i64 K,.int .i64 V,.int .i64 D] 98)):=aH (S1 _ _) _;have x1:=O.keep x8;have w9:=hx.trans (Bx.aD x8);have f3:=O.lt
   go_upto_region 7 with fail
   clear d0 d1 d2 O hx x8;generalize wr.heap.size=tb at*;generalize SB _ _=wt at*;obtain⟨st,o1,o2,M',e1,e2,e3,b0,y8,f4⟩:=bG.enter (x1.move (w1:=wt.drew) rfl) j6 JK iL x6 (aK M (K,V)+D)
   change (Instr.entryStore _ _ (.int .i64 (st:Int)) _).run _ _=_ at e3
   have e0:=bG.look (x1.move (w1:=wt.drew) rfl) j6 JK iL x6;obtain⟨y0,y1,y2⟩:=b3.three;have z9: -4611686018427387904<=aK M (K,V)+D/\aK M (K,V)+D<=4611686018427387904:=by
    have h1:=iT (L.take (k+1)) (K,V);rw[fK HR.out,eG,if_pos rfl,<-HT.out]at h1;have h2:=pZ L (k+1);rw[fK HR.out]at h2;have:=HA.out;omega
   have HN:Hid (∀s,aK M' s=aK (L.take (k+1)) s):=fun s=>by
    rw[y8,fK HR.out,eG]
    by_cases e:(K,V)=s
    ·rw[if_pos e,if_pos e,<-HT.out,e]
    ·rw[if_neg e,if_neg e,HT.out];omega
   clear y8;obtain⟨f2,d8⟩:=z9;generalize hT:aK M (K,V)=T at*;have f7:Hid (aK M (K,V)=T):=hT;clear hT;have iw:S0.wrap (T+D)=T+D:=by rw[Rz];omega
   go_region
   clear e0 e1 e2 e3;have w6:Bx H Y (setBlock wt.drew H o2):=w9.drew.cu o2;generalize setBlock wt.drew H o2=w7 at*;go_wp2_with fail;go_roundw
   case rel=>exact⟨k+1,M',by omega,by go_num,b0,HN.out,by omega,w6⟩
   case measure=>simp[intOf];omega
  ·obtain rfl:k=L.length:=by omega
   have c0:Hid (∀s,aK M s=aK L s):=fun s=>by rw[HT.out,fQ]
   have z0:Ry w.heap.size w wr:=hx.below v1 (by omega) a4;have v2:=z0.size;clear HT z5;go_wp2_with fail;refine (kV H wr O (by omega) c0.out).mono ?_;rintro e w8 ⟨o8,rfl,x4,a8⟩;have O8:Hid (aQ w8 wr.heap.size o8 (aO bJ L)):=x4;clear x4;go_wp2_with fail;go_ret;refine⟨_,rfl,?_,aG z0 a8⟩;rw[HF.out];exact cW O8.out v2
theorem Bk.dy {G B A g:Rm}{t:TypeId}(h:Bk w k #[G,B,A,g] t):
  w.cell? ⟨k,0,none⟩=some G/\w.cell? ⟨k,1,none⟩=some B/\w.cell? ⟨k,2,none⟩=some A/\w.cell? ⟨k,3,none⟩=some g:=by
 unfold Bk at h;simp[Rk.cell?,h]
theorem KN (n0 n1 n2 g:Int)(u:Rk):(SF 276 (.agg #[.int .i64 n0,.int .i64 n1,.int .i64 n2,.int .i64 g]) (.int .i64 0)).run AP u=.ok (.int .i64 n0) u:=by kernel_rfl
theorem KO (n0 n1 n2 g:Int)(u:Rk):(SF 276 (.agg #[.int .i64 n0,.int .i64 n1,.int .i64 n2,.int .i64 g]) (.int .i64 1)).run AP u=.ok (.int .i64 n1) u:=by kernel_rfl
theorem KP (n0 n1 n2 g:Int)(u:Rk):(SF 276 (.agg #[.int .i64 n0,.int .i64 n1,.int .i64 n2,.int .i64 g]) (.int .i64 2)).run AP u=.ok (.int .i64 n2) u:=by kernel_rfl
theorem KQ (n0 n1 n2 g:Int)(u:Rk):(SF 276 (.agg #[.int .i64 n0,.int .i64 n1,.int .i64 n2,.int .i64 g]) (.int .i64 3)).run AP u=.ok (.int .i64 g) u:=by kernel_rfl
theorem AY (v:Rm)(l:List It)(w:Rk)(h:Is w v l):
  Ro AP 198 #[v] w fun e w'=>∃o:Rm,e=.returned o/\aQ w' w.heap.size o (kH l)/\Ry w.heap.size w w':=by
 cases hk:aX l
 ·have HF:Hid (kH l=[]):=Jv hk;go_enter Rg,Nk;go_wp2_with fail;refine (cH hk h).mono ?_;rintro e w1 ⟨rfl,x9⟩;go_wp2_with fail;go_ret;refine⟨_,rfl,?_,x9⟩;rw[HF.out];exact oN _ _ _ _ _
 have HF:Hid (kH l=eO (kC l) 4):=by show _=_;rw[Jb];exact Aw hk
 have hl:=dF hk;have HN:Hid (∀(k:Nat)(key:Int),-(1099511627776*400)<=bY (l.take k) key/\bY (l.take k) key<=1099511627776*400):=fun k key=>by
  have h1:=wS (l.take k) key;have h2:=kM hk k;omega
 have HP:Hid (∀(k:Nat)(K V D:Int),l[k]?=some ((K,V),D)->0<=K/\K<=3 /\ -1099511627776<=D/\D<=1099511627776):=fun k K V D hr=>by
  have:=mW (qD hk (gX hr));simp only at this;omega
 go_enter Rg,Nk;go_wp2_with fail;refine (cH hk h).mono ?_;rintro e w1 ⟨rfl,x9⟩;have b1:=x9.size;obtain⟨a,b5,rfl,hc,hm,hn,x8⟩:=Is.open (h.keep x9);unfold maxLen at hm;have HC:=(show Hid _ from x8);clear x8 h hk;have b0:Bk (w1.alloc (.cells #[.int .i64 0,.int .i64 0,.int .i64 0,.int .i64 0] 276)) w1.heap.size #[.int .i64 0,.int .i64 0,.int .i64 0,.int .i64 0] 276:=Bk.new _ _ rfl;have v0:Ry w1.heap.size w1 (w1.alloc (.cells #[.int .i64 0,.int .i64 0,.int .i64 0,.int .i64 0] 276)):=aH (S1 _ _) _;go_wp2_with fail
 go_loopw [14] (fun i wr=>∃k:Nat,k<=l.length/\i=.int .i64 k/\Bk wr w1.heap.size #[.int .i64 (bY (l.take k) 0),.int .i64 (bY (l.take k) 1),.int .i64 (bY (l.take k) 2),.int .i64 (bY (l.take k) 3)] 276/\Ry w1.heap.size w1 wr) (fun i _=>l.length-(intOf i).toNat)
 case atStart=>exact⟨0,by omega,rfl,b0,v0⟩
 case round=>
  clear b0 v0;obtain⟨k,b3,rfl,x3,hb⟩:=hrel;obtain⟨m0,v9⟩:=HN.out k 0;obtain⟨m1,v8⟩:=HN.out k 1;obtain⟨m2,v7⟩:=HN.out k 2;obtain⟨m3,v6⟩:=HN.out k 3;have a9:=hb.size;have b2:=x3.lt
  by_cases z8:k<l.length
  ·obtain⟨g,off,K,V,D,rfl,hg,hr,c0,c1,c2⟩:=HC.out k z8;obtain⟨p0,p1,p2,p3⟩:=HP.out k _ _ _ hr;have d0:=cB hb c0;have d1:=cB hb c1;have d2:=cB hb c2;have ik:((k:Int)<(l.length:Int)):=by omega
   have S:Hid (bY (l.take (k+1)) 0=bY (l.take k) 0+(if K=0 then D else 0)/\bY (l.take (k+1)) 1=bY (l.take k) 1+(if K=1 then D else 0)/\bY (l.take (k+1)) 2=bY (l.take k) 2+(if K=2 then D else 0)/\bY (l.take (k+1)) 3=bY (l.take k) 3+(if K=3 then D else 0)):=by rw[fK hr];exact⟨pK _ _ _,pK _ _ _,pK _ _ _,pK _ _ _⟩
   have bx:=Bk.new (w:=wr) #[.int .i64 K,.int .i64 V,.int .i64 D] 98 rfl;have y6:Ry w1.heap.size w1 (wr.alloc (.cells #[.int .i64 K,.int .i64 V,.int .i64 D] 98)):=aH hb _;have bs:=x3.alloc (.cells #[.int .i64 K,.int .i64 V,.int .i64 D] 98);clear c0 c1 c2 hr x3;generalize bY (l.take k) 0=n0 at*;generalize bY (l.take k) 1=n1 at*;generalize bY (l.take k) 2=n2 at*;generalize bY (l.take k) 3=A at*
   go_upto_region 7 with fail
   clear d0 d1 d2;generalize wr.heap.size=tb at*;generalize SB _ _=wx at*;obtain⟨q0,q1,q2⟩:=bx.three;obtain⟨s0,s1,s2,s3⟩:=bs.dy;obtain rfl|rfl|rfl|rfl:K=0\/K=1\/K=2\/K=3:=by omega
   ·have iw:S0.wrap (n0+D)=n0+D:=by rw[Rz];omega
    have fj:=bs.free 0
    go_region
    have x0:=(bs.set 0 (.int .i64 (n0+D))).drew;have U:Ry w1.heap.size w1 (wx.setCell ⟨w1.heap.size,0,none⟩ (.int .i64 (n0+D))).drew:=(y6.setCell (by simp) _).drew;generalize (wx.setCell ⟨w1.heap.size,0,none⟩ (.int .i64 (n0+D))).drew=w7 at*;obtain⟨e0,e1,Z,Y⟩:=S.out;have G:Hid (bY (l.take (k+1)) 0=n0+D/\bY (l.take (k+1)) 1=n1/\bY (l.take (k+1)) 2=n2/\bY (l.take (k+1)) 3=A):=⟨by rw[e0];simp,by rw[e1];simp,by rw[Z];simp,by rw[Y];simp⟩;clear e0 e1 Z Y q0 q1 q2 s0 s1 s2 s3 fj;go_wp2_with fail;go_roundw
    case rel=>
     refine⟨k+1,by omega,by go_num,?_,U⟩;rw[G.out.1,G.out.2.1,G.out.2.2.1,G.out.2.2.2];exact x0
    case measure=>simp[intOf];omega
   ·have iw:S0.wrap (n1+D)=n1+D:=by rw[Rz];omega
    have fj:=bs.free 1
    go_region
    have x0:=(bs.set 1 (.int .i64 (n1+D))).drew;have U:Ry w1.heap.size w1 (wx.setCell ⟨w1.heap.size,1,none⟩ (.int .i64 (n1+D))).drew:=(y6.setCell (by simp) _).drew;generalize (wx.setCell ⟨w1.heap.size,1,none⟩ (.int .i64 (n1+D))).drew=w7 at*;obtain⟨e0,e1,Z,Y⟩:=S.out;have G:Hid (bY (l.take (k+1)) 0=n0/\bY (l.take (k+1)) 1=n1+D/\bY (l.take (k+1)) 2=n2/\bY (l.take (k+1)) 3=A):=⟨by rw[e0];simp,by rw[e1];simp,by rw[Z];simp,by rw[Y];simp⟩;clear e0 e1 Z Y q0 q1 q2 s0 s1 s2 s3 fj;go_wp2_with fail;go_roundw
    case rel=>
     refine⟨k+1,by omega,by go_num,?_,U⟩;rw[G.out.1,G.out.2.1,G.out.2.2.1,G.out.2.2.2];exact x0
    case measure=>simp[intOf];omega
   ·have iw:S0.wrap (n2+D)=n2+D:=by rw[Rz];omega
    have fj:=bs.free 2
    go_region
    have x0:=(bs.set 2 (.int .i64 (n2+D))).drew;have U:Ry w1.heap.size w1 (wx.setCell ⟨w1.heap.size,2,none⟩ (.int .i64 (n2+D))).drew:=(y6.setCell (by simp) _).drew;generalize (wx.setCell ⟨w1.heap.size,2,none⟩ (.int .i64 (n2+D))).drew=w7 at*;obtain⟨e0,e1,Z,Y⟩:=S.out;have G:Hid (bY (l.take (k+1)) 0=n0/\bY (l.take (k+1)) 1=n1/\bY (l.take (k+1)) 2=n2+D/\bY (l.take (k+1)) 3=A):=⟨by rw[e0];simp,by rw[e1];simp,by rw[Z];simp,by rw[Y];simp⟩;clear e0 e1 Z Y q0 q1 q2 s0 s1 s2 s3 fj;go_wp2_with fail;go_roundw
    case rel=>
     refine⟨k+1,by omega,by go_num,?_,U⟩;rw[G.out.1,G.out.2.1,G.out.2.2.1,G.out.2.2.2];exact x0
    case measure=>simp[intOf];omega
   ·have iw:S0.wrap (A+D)=A+D:=by rw[Rz];omega
    have fj:=bs.free 3
    go_region
    have x0:=(bs.set 3 (.int .i64 (A+D))).drew;have U:Ry w1.heap.size w1 (wx.setCell ⟨w1.heap.size,3,none⟩ (.int .i64 (A+D))).drew:=(y6.setCell (by simp) _).drew;generalize (wx.setCell ⟨w1.heap.size,3,none⟩ (.int .i64 (A+D))).drew=w7 at*;obtain⟨e0,e1,Z,Y⟩:=S.out;have G:Hid (bY (l.take (k+1)) 0=n0/\bY (l.take (k+1)) 1=n1/\bY (l.take (k+1)) 2=n2/\bY (l.take (k+1)) 3=A+D):=⟨by rw[e0];simp,by rw[e1];simp,by rw[Z];simp,by rw[Y];simp⟩;clear e0 e1 Z Y q0 q1 q2 s0 s1 s2 s3 fj;go_wp2_with fail;go_roundw
    case rel=>
     refine⟨k+1,by omega,by go_num,?_,U⟩;rw[G.out.1,G.out.2.1,G.out.2.2.1,G.out.2.2.2];exact x0
    case measure=>simp[intOf];omega
  ·obtain rfl:k=l.length:=by omega
   rw[fQ]at x3 m0 v9 m1 v8 m2 v7 m3 v6;obtain⟨s0,s1,s2,s3⟩:=x3.dy;have S:Hid (kC l 0=(if bY l 0=0 then [] else [((0,bY l 0%100),1)])/\kC l 1=(if bY l 1=0 then [] else [((1,bY l 1%100),1)])/\kC l 2=(if bY l 2=0 then [] else [((2,bY l 2%100),1)])/\kC l 3=(if bY l 3=0 then [] else [((3,bY l 3%100),1)])):=⟨rfl,rfl,rfl,rfl⟩;have z9:=aG x9 hb;have w2:=z9.size;clear x3 HC HP HN;generalize bY l 0=n0 at*;generalize bY l 1=n1 at*;generalize bY l 2=n2 at*;generalize bY l 3=A at*;have HL:Hid (∀k:Nat,(eO (kC l) k).length<=k*1):=M7 (fun k=>q8 l k);have HZ:Hid (eO (kC l) 1=eO (kC l) 0++kC l 0/\eO (kC l) 2=eO (kC l) 1++kC l 1/\eO (kC l) 3=eO (kC l) 2++kC l 2/\eO (kC l) 4=eO (kC l) 3++kC l 3):=⟨rfl,rfl,rfl,rfl⟩;obtain⟨W,hW⟩:∃W,W=wr:=⟨_,rfl⟩;subst hW;go_wp2_with fail
   go_loopw [6,28] (fun o i wz=>∃k:Nat,k<=4/\i=.int .i64 k/\aQ wz W.heap.size o (eO (kC l) k)/\Ry W.heap.size W wz) (fun _ i _=>4-(intOf i).toNat)
   case atStart=>exact⟨0,by omega,rfl,oN _ _ _ _ _,S1 _ _⟩
   case round=>
    clear s0 s1 s2 s3;obtain⟨k,b4,rfl,z0,J⟩:=hrel;have HO:Hid (aQ wr W.heap.size u6 (eO (kC l) k)):=z0;have h1:=HL.out k;have a8:=J.size;clear z0
    by_cases z8:k<4
    ·obtain rfl|rfl|rfl|rfl:k=0\/k=1\/k=2\/k=3:=by omega
     ·by_cases M:n0=0
      ·subst M;have ix:=KN 0 n1 n2 A;have O:Hid (eO (kC l) (0+1)=eO (kC l) 0):=by show _=_;rw[HZ.out.1,S.out.1,if_pos rfl,nT]
       generalize eO (kC l) 0=LL at*;go_wp2_with fail;go_roundw
       case rel=>exact⟨0+1,by omega,by go_num,by rw[O.out];exact HO.out,J⟩
       case measure=>simp[intOf]
      ·have nz:(n0==0)=false:=by simpa using M
       have ix:=KN n0 n1 n2 A;have O:Hid (eO (kC l) (0+1)=eO (kC l) 0++[((0,n0%100),1)]):=by show _=_;rw[HZ.out.1,S.out.1,if_neg M]
       go_wp2_with fail;refine (pT n0 _).mono ?_;rintro e w8 ⟨rfl,I⟩;have H:=aG J I;have y8:=H.size;have O2:aQ w8 W.heap.size u6 (eO (kC l) 0):=cC HO.out I;generalize eO (kC l) 0=LL at*
       go_wp2_with (at_builtin;refine uU _ rfl _ _ rfl W.heap.size _ LL rfl (O2.alloc _) _ 0 (n0%100) 1 rfl (Bk.new _ _ rfl) (by omega) (by simp;omega) ?_;intro g9 y5 w9 L B z1)
       have T:Ry W.heap.size W w9:=Below.aU (aH H _) B (by simp;omega) (bU O2);exact⟨⟨0+1,by omega,by go_num,by rw[O.out];exact L,T⟩,by simp[intOf]⟩
     ·by_cases M:n1=0
      ·subst M;have ix:=KO n0 0 n2 A;have O:Hid (eO (kC l) (1+1)=eO (kC l) 1):=by show _=_;rw[HZ.out.2.1,S.out.2.1,if_pos rfl,nT]
       generalize eO (kC l) 1=LL at*;go_wp2_with fail;go_roundw
       case rel=>exact⟨1+1,by omega,by go_num,by rw[O.out];exact HO.out,J⟩
       case measure=>simp[intOf]
      ·have nz:(n1==0)=false:=by simpa using M
       have ix:=KO n0 n1 n2 A;have O:Hid (eO (kC l) (1+1)=eO (kC l) 1++[((1,n1%100),1)]):=by show _=_;rw[HZ.out.2.1,S.out.2.1,if_neg M]
       go_wp2_with fail;refine (pT n1 _).mono ?_;rintro e w8 ⟨rfl,I⟩;have H:=aG J I;have y8:=H.size;have O2:aQ w8 W.heap.size u6 (eO (kC l) 1):=cC HO.out I;generalize eO (kC l) 1=LL at*
       go_wp2_with (at_builtin;refine uU _ rfl _ _ rfl W.heap.size _ LL rfl (O2.alloc _) _ 1 (n1%100) 1 rfl (Bk.new _ _ rfl) (by omega) (by simp;omega) ?_;intro g9 y5 w9 L B z1)
       have T:Ry W.heap.size W w9:=Below.aU (aH H _) B (by simp;omega) (bU O2);exact⟨⟨1+1,by omega,by go_num,by rw[O.out];exact L,T⟩,by simp[intOf]⟩
     ·by_cases M:n2=0
      ·subst M;have ix:=KP n0 n1 0 A;have O:Hid (eO (kC l) (2+1)=eO (kC l) 2):=by show _=_;rw[HZ.out.2.2.1,S.out.2.2.1,if_pos rfl,nT]
       generalize eO (kC l) 2=LL at*;go_wp2_with fail;go_roundw
       case rel=>exact⟨2+1,by omega,by go_num,by rw[O.out];exact HO.out,J⟩
       case measure=>simp[intOf]
      ·have nz:(n2==0)=false:=by simpa using M
       have ix:=KP n0 n1 n2 A;have O:Hid (eO (kC l) (2+1)=eO (kC l) 2++[((2,n2%100),1)]):=by show _=_;rw[HZ.out.2.2.1,S.out.2.2.1,if_neg M]
       go_wp2_with fail;refine (pT n2 _).mono ?_;rintro e w8 ⟨rfl,I⟩;have H:=aG J I;have y8:=H.size;have O2:aQ w8 W.heap.size u6 (eO (kC l) 2):=cC HO.out I;generalize eO (kC l) 2=LL at*
       go_wp2_with (at_builtin;refine uU _ rfl _ _ rfl W.heap.size _ LL rfl (O2.alloc _) _ 2 (n2%100) 1 rfl (Bk.new _ _ rfl) (by omega) (by simp;omega) ?_;intro g9 y5 w9 L B z1)
       have T:Ry W.heap.size W w9:=Below.aU (aH H _) B (by simp;omega) (bU O2);exact⟨⟨2+1,by omega,by go_num,by rw[O.out];exact L,T⟩,by simp[intOf]⟩
     ·by_cases M:A=0
      ·subst M;have ix:=KQ n0 n1 n2 0;have O:Hid (eO (kC l) (3+1)=eO (kC l) 3):=by show _=_;rw[HZ.out.2.2.2,S.out.2.2.2,if_pos rfl,nT]
       generalize eO (kC l) 3=LL at*;go_wp2_with fail;go_roundw
       case rel=>exact⟨3+1,by omega,by go_num,by rw[O.out];exact HO.out,J⟩
       case measure=>simp[intOf]
      ·have nz:(A==0)=false:=by simpa using M
       have ix:=KQ n0 n1 n2 A;have O:Hid (eO (kC l) (3+1)=eO (kC l) 3++[((3,A%100),1)]):=by show _=_;rw[HZ.out.2.2.2,S.out.2.2.2,if_neg M]
       go_wp2_with fail;refine (pT A _).mono ?_;rintro e w8 ⟨rfl,I⟩;have H:=aG J I;have y8:=H.size;have O2:aQ w8 W.heap.size u6 (eO (kC l) 3):=cC HO.out I;generalize eO (kC l) 3=LL at*
       go_wp2_with (at_builtin;refine uU _ rfl _ _ rfl W.heap.size _ LL rfl (O2.alloc _) _ 3 (A%100) 1 rfl (Bk.new _ _ rfl) (by omega) (by simp;omega) ?_;intro g9 y5 w9 L B z1)
       have T:Ry W.heap.size W w9:=Below.aU (aH H _) B (by simp;omega) (bU O2);exact⟨⟨3+1,by omega,by go_num,by rw[O.out];exact L,T⟩,by simp[intOf]⟩
    ·obtain rfl:k=4:=by omega
     go_wp2_with fail;go_ret;refine⟨_,rfl,?_,aG z9 J⟩;rw[HF.out];exact cW HO.out w2
end Go.Proofs.YtbdpcngcbnoioaaGreatDoor
