import Derived.Test.YtbdpcngcbnoioaaGreatDoorGs7
set_option maxRecDepth 100000
set_option maxHeartbeats 16000000
namespace Go.Proofs.YtbdpcngcbnoioaaGreatDoor
open _root_.List renaming getElem?_eq_getElem->fD,filter_append->fH,mem_filter->fV,take_length->gY,mem_of_getElem?->gZ,mem_append->iC,length_append->jU,pairwise_iff_getElem->kR,getElem?_eq_some_iff->kX,length_take->lI,append_nil->lY,pairwise_append->mF,getElem_of_mem->mJ,Pairwise->nU,range->oJ,getElem?_take->oO,map_append->qA,mem_range->rN,length_filter_le->sE,all_eq_true->sG,mem_cons->sH,mem_map->sI
open _root_.Array renaming getElem?_setIfInBounds->wH
open Go.Proofs.Tryz renaming prog->wR,ntmps142->AT,func142->B3,ntmps256->BK,func256->E0,ntmps199->EJ,ntmps198->Ga,ntmps73->Lx,func199->Md,func198->Nh,func73->Ov
open Go renaming World->Oz,IntKind->P1,Value->P2,Calls->P3,wpQuiet_nil->P4
open Go.RowKit renaming Below->P5
open Go.IntKind renaming wrap_i64->P6,i64->P7
open Go.RowKit.Below renaming refl->P8
open _root_.Bool renaming and_eq_true->P9
open _root_.Option.some renaming inj->PC
open _root_.List.Pairwise renaming filter->PD
open _root_.Option renaming some->PE
open Go.World renaming alloc->PF
open Go.Instr renaming index->PG
open _root_.Int renaming tmod_lt_of_pos->PH,lt_tmod_of_pos->PI
variable {D K V d key:Int}{c:Array P2}{i j k m:Nat}{s:Int×Int}
def lA (r:It):Bool:=cH r.1.1 0 3&&cH r.1.2 0 99&&decide (r.2≠0)&&cH r.2 (-1099511627776) 1099511627776
def iP (l:List It)(i:Nat):Bool:=
 match l[i]? with
 | none=>true
 | some r=>lA r&&(match i with|0=>true|j+1=>match l[j]? with|none=>true|some q=>cO q.1 r.1)
def d6 (l:List It):Bool:=decide (l.length<=400)&&(oJ l.length).all (iP l)
theorem mC {l:List It}(h:d6 l=true):l.length<=400:=by simp[d6]at h;exact h.1
theorem NX {l:List It}(hi:i<l.length)(h:iP l i=false):d6 l=false:=by
 unfold d6;have:(oJ l.length).all (iP l)=false:=by
  rw[List.all_eq_false];exact⟨i,by simpa using hi,by simp[h]⟩
 rw[this,Bool.and_false]
theorem KF {l:List It}(h:400<l.length):d6 l=false:=by simp[d6];omega
theorem Hv {l:List It}(h:l.length<=400)(ha:∀i,i<l.length->iP l i=true):d6 l=true:=by
 unfold d6;rw[P9,sG];exact⟨by simpa using h,fun j g=>ha j (by simpa using g)⟩
theorem zT {l:List It}{r:It}(h:l[0]?=some r):iP l 0=lA r:=by unfold iP;rw[h];simp
theorem vT {l:List It}{r q:It}(h:l[j+1]?=some r)(g:l[j]?=some q):iP l (j+1)=(lA r&&cO q.1 r.1):=by
 unfold iP;rw[h];simp[g]
theorem J2 {l:List It}(h:d6 l=true)(hi:i<l.length):iP l i=true:=by
 simp only[d6,P9,sG]at h;exact h.2 i (by simpa using hi)
theorem sC {l:List It}(h:d6 l=true){r:It}(hr:r∈l):lA r=true:=by
 obtain⟨i,hi,e⟩:=mJ hr;have hs:=J2 h hi;unfold iP at hs;rw[fD hi,e]at hs;simp only[P9]at hs;exact hs.1
theorem Cv {l:List It}(h:∀i r q,l[i+1]?=some r->l[i]?=some q->cO q.1 r.1=true):jX cO l:=by
 have key:∀d i (h1:i+d+1<l.length),cO (l[i]'(by omega)).1 l[i+d+1].1=true:=by
  intro d
  induction d with
  | zero=>intro i h1;exact h i _ _ (fD h1) (fD (by omega))
  | succ d ih=>
   intro i h1;exact eI.trans _ _ _ (ih i (by omega)) (h (i+d+1) _ _ (fD (by omega)) (fD (by omega)))
 refine kR.2 fun i j hi g w=>?_;obtain⟨d,rfl⟩:∃d,j=i+d+1:=⟨j-i-1,by omega⟩;exact key d i g
theorem uE {l:List It}(h:d6 l=true):jX cO l:=Cv fun i r q h1 h2=>by
 have:=J2 h (kX.1 h1).1;rw[vT h1 h2]at this;simp at this;exact this.2
theorem oW {r:It}(h:lA r=true):0<=r.1.1/\r.1.1<=3/\0<=r.1.2/\r.1.2<=99/\r.2≠0 /\ -1099511627776<=r.2/\r.2<=1099511627776:=by
 simp only[lA,cH,P9,decide_eq_true_eq]at h;omega
theorem Hc {r:It}(h:0<=r.1.1/\r.1.1<=3/\0<=r.1.2/\r.1.2<=99/\r.2≠0 /\ -1099511627776<=r.2/\r.2<=1099511627776):lA r=true:=by
 simp only[lA,cH,P9,decide_eq_true_eq];omega
theorem AX {l:List It}(hl:l.length<=400)(h:∀r∈l,lA r=true)(hs:jX cO l):d6 l=true:=Hv hl fun i hi=>by
 have hr:=fD hi;have h0:=h _ (List.getElem_mem hi)
 match i,hi,hr,h0 with
 | 0,hi,hr,h0=>rw[zT hr];exact h0
 | j+1,hi,hr,h0=>
  have hq:=fD (l:=l) (i:=j) (by omega);rw[vT hr hq,P9];exact⟨h0,kR.1 hs j (j+1) (by omega) hi (by omega)⟩
theorem Lr:d6 []=true:=by decide
def mM (s:Int×Int):Prop:=0<=s.1/\s.1<=3/\0<=s.2/\s.2<=99
theorem Mn {l:List It}(hl:l.length<=400)(h:∀r∈l,mM r.1)(ha:aM l<=1099511627776):d6 (aP cO l)=true:=
 AX (Nat.le_trans (i6 _ _) hl) (fun r hr=>by
  obtain⟨q,hq,e⟩:=oR hr;obtain⟨h1,h2,h3,h4⟩:=h q hq;have g:=LO eI hr;rw[e]at h1 h2 h3 h4;exact Hc ⟨h1,h2,h3,h4,p7 _ _ r hr,by omega,by omega⟩) (kH eI _)
theorem Gc {l:List It}(h:d6 l=true):∀r∈l,mM r.1:=fun r hr=>by
 obtain⟨h1,h2,h3,h4,_⟩:=oW (sC h hr);exact⟨h1,h2,h3,h4⟩
theorem Mb {l:List It}(h:d6 l=true):aM l<=1099511627776*400:=by
 have h1:=lQ (l:=l) (c:=1099511627776) fun r hr=>by have:=oW (sC h hr);omega
 have h2:=mC h;have:(1099511627776:Int)*l.length<=1099511627776*400:=by omega
 omega
def cR (how:Int)(s:Int×Int):Int×Int:=
 if how=1 then (s.2%4,s.2-s.2%4+s.1) else if how=2 then (s.1,(s.2+1)%100) else if how=3 then (s.2%4,s.2) else if how=4 then (0,s.2) else s
def eR (how:Int)(s:Int×Int):Bool:=
 if how=5 then decide (s.2%2=0) else if how=6 then decide (s.1%2=0) else if how=7 then decide (s.2<10) else true
def i8 (l:List It):List It:=l.map fun r=>(r.1,-r.2)
def pv (a b:Int):Int:=(10*a+b)%100
def bW (l:List It):List It:=(l.filter fun r=>decide (0<r.2)).map fun r=>(r.1,1)
def lO (l:List It):List It:=if d6 l then bW l else []
def bU (l:List It)(k:Int):Int:=rV (fun s:Int×Int=>if s.1=k then 1 else 0) l
def kC (l:List It)(k:Int):List It:=if bU l k=0 then [] else [((k,bU l k%100),1)]
def jR (l:List It):List It:=if d6 l then kC l 0++kC l 1++kC l 2++kC l 3 else []
def gM (l:List It)(k:Int):List It:=((bW l).filter fun r=>decide (r.1.1=k)).take 1
def jE (l:List It):List It:=if d6 l then gM l 0++gM l 1++gM l 2++gM l 3 else []
theorem Dy (l:List It)(s:Int×Int):aU (i8 l) s =-aU l s:=Bb l s
theorem OH {g:Int}(h:mM s):mM (cR g s):=by
 obtain⟨h1,h2,h3,h4⟩:=h;unfold cR mM
 split
 ·simp only;omega
 ·split
  ·simp only;omega
  ·split
   ·simp only;omega
   ·split
    ·simp only;omega
    ·exact⟨h1,h2,h3,h4⟩
theorem nI (l:List It)(r:It)(k:Int):bU (l++[r]) k=bU l k+(if r.1.1=k then r.2 else 0):=by
 unfold bU;rw[Ey];simp only[rV];split<;>simp
theorem uQ (l:List It)(k:Int): -aM l<=bU l k/\bU l k<=aM l:=by
 induction l with
 | nil=>simp[bU,rV,aM]
 | cons r l ih=>
  unfold bU at ih ⊢;simp only[rV,aM]
  split<;>simp only[Int.mul_one,Int.mul_zero]<;>omega
theorem vG {l:List It}{k:Int}{r:It}(h:r∈kC l k):r=((k,bU l k%100),1)/\bU l k≠0:=by
 unfold kC at h
 split at h
 ·simp at h
 ·exact⟨by simpa using h,by assumption⟩
theorem nP (l:List It)(k:Int):(kC l k).length<=1:=by unfold kC;split<;>simp
theorem I9 {l:List It}(h:d6 l=false):jR l=[]:=by simp[jR,h]
theorem AY {l:List It}(h:d6 l=true):jR l=kC l 0++kC l 1++kC l 2++kC l 3:=by simp[jR,h]
theorem Gj (l:List It):(jR l).length<=4:=by
 unfold jR;split
 ·have:=nP l 0;have:=nP l 1;have:=nP l 2;have:=nP l 3;simp only[jU];omega
 ·simp
theorem GL {l:List It}{r:It}(h:r∈jR l):r.2=1/\bU l r.1.1≠0/\r.1.2=bU l r.1.1%100/\0<=r.1.1/\r.1.1<=3:=by
 unfold jR at h
 split at h
 ·simp only[iC]at h
  rcases h with ((h|h)|h)|h<;>obtain⟨rfl,hn⟩:=vG h<;>exact⟨rfl,hn,rfl,by simp,by simp⟩
 ·simp at h
theorem vK {f:Int->List It}(h1:∀k,∀r∈f k,r.1.1=k){R:It->It->Prop}(g:∀k,(f k).Pairwise R)(w:∀p q:It,p.1.1<q.1.1->R p q):(f 0++f 1++f 2++f 3).Pairwise R:=by
 have key:∀{p q:It}{a b:Int},p∈f a->q∈f b->a<b->R p q:=fun hp hq A=>w _ _ (by rw[h1 _ _ hp,h1 _ _ hq];exact A);rw[mF,mF,mF];refine⟨⟨⟨g 0,g 1,fun p hp q hq=>key hp hq (by omega)⟩,g 2,fun p hp q hq=>?_⟩,g 3,fun p hp q hq=>?_⟩
 ·rcases iC.1 hp with hp|hp<;>exact key hp hq (by omega)
 ·simp only[iC]at hp
  rcases hp with (hp|hp)|hp<;>exact key hp hq (by omega)
theorem IY (l:List It):(jR l).Pairwise fun p q=>p.1.1<q.1.1:=by
 unfold jR;split
 ·refine vK (f:=kC l) (fun k r hr=>?_) (fun k=>?_) (fun _ _ h=>h)
  ·rw[(vG hr).1]
  ·unfold kC;split<;>simp
 ·simp
theorem Fo {p q:It}(h:p.1.1<q.1.1):cO p.1 q.1=true:=by simp[cO];exact .inl h
theorem Gi {l:List It}(hs:jX cO l)(g:∀r∈l,0<=r.1.1/\r.1.1<=3):
  (l.filter fun r=>decide (r.1.1=0))++(l.filter fun r=>decide (r.1.1=1))++(l.filter fun r=>decide (r.1.1=2))++(l.filter fun r=>decide (r.1.1=3))=l:=by
 refine yD eI ?_ hs fun r=>?_
 ·exact vK (f:=fun k=>l.filter fun r=>decide (r.1.1=k)) (fun k r hr=>by simpa using (fV.1 hr).2) (fun k=>PD _ hs) (fun _ _ h=>Fo h)
 ·simp only[iC,fV,decide_eq_true_eq];constructor
  ·rintro (((h|h)|h)|h)<;>exact h.1
  ·intro h;have:=g r h;have e:r.1.1=0\/r.1.1=1\/r.1.1=2\/r.1.1=3:=by omega
   rcases e with e|e|e|e
   ·exact .inl (.inl (.inl ⟨h,e⟩))
   ·exact .inl (.inl (.inr ⟨h,e⟩))
   ·exact .inl (.inr ⟨h,e⟩)
   ·exact .inr ⟨h,e⟩
theorem uW {l:List It}{r:It}:r∈bW l↔r.2=1/\∃q∈l,0<q.2/\q.1=r.1:=by
 unfold bW;simp only[sI,fV,decide_eq_true_eq];constructor
 ·rintro⟨q,⟨h1,h2⟩,rfl⟩;exact⟨rfl,q,h1,h2,rfl⟩
 ·rintro⟨h1,q,h2,h3,h4⟩;exact⟨q,⟨h2,h3⟩,Prod.ext h4 h1.symm⟩
theorem uZ {l:List It}(h:jX cO l):jX cO (bW l):=by
 unfold jX bW;rw[List.pairwise_map];exact PD _ h
theorem vF (l:List It):(bW l).length<=l.length:=by unfold bW;rw[List.length_map];exact sE _ _
theorem AJ {l:List It}(h:d6 l=true):d6 (bW l)=true:=
 AX (Nat.le_trans (vF l) (mC h)) (fun r hr=>by
  obtain⟨h1,q,h2,h3,h4⟩:=uW.1 hr;have:=oW (sC h h2);rw[h4]at this;exact Hc (by omega)) (uZ (uE h))
theorem DW {l:List It}(h:d6 l=false):lO l=[]:=by simp[lO,h]
theorem sM {l:List It}(h:d6 l=true):lO l=bW l:=by simp[lO,h]
theorem IK (l:List It):(lO l).length<=400:=by
 unfold lO;split
 ·rename_i h;exact Nat.le_trans (vF l) (mC h)
 ·simp
theorem CU {l:List It}(h:d6 l=true):∀r∈bW l,0<=r.1.1/\r.1.1<=3:=fun r hr=>by
 have:=oW (sC (AJ h) hr);omega
theorem Hz {l:List It}(hs:jX cO l)(r:It):r∈l.take 1↔r∈l/\∀q∈l,cO q.1 r.1=false:=by
 cases l with
 | nil=>simp
 | cons x l=>
  obtain⟨hx,_⟩:=List.pairwise_cons.1 hs;simp only[List.take_succ_cons,List.take_zero,List.mem_singleton];constructor
  ·rintro rfl;refine⟨by simp,fun q hq=>?_⟩
   rcases sH.1 hq with rfl|hq
   ·exact eI.irr _
   ·cases e:cO q.1 r.1
    ·rfl
    ·have:=eI.trans _ _ _ e (hx q hq);rw[eI.irr]at this;cases this
  ·rintro⟨h1,h2⟩
   rcases sH.1 h1 with rfl|h1
   ·rfl
   ·have:=h2 x (by simp);rw[hx r h1]at this;cases this
theorem GN {l:List It}(hs:jX cO l)(k:Int)(r:It):r∈gM l k↔r∈bW l/\r.1.1=k/\∀q∈bW l,q.1.1=k->cO q.1 r.1=false:=by
 unfold gM;rw[Hz (PD _ (uZ hs))];simp only[fV,decide_eq_true_eq];constructor
 ·rintro⟨⟨h1,h2⟩,h3⟩;exact⟨h1,h2,fun q hq e=>h3 q ⟨hq,e⟩⟩
 ·rintro⟨h1,h2,h3⟩;exact⟨⟨h1,h2⟩,fun q hq=>h3 q hq.1 hq.2⟩
theorem nW (l:List It)(k:Int):(gM l k).length<=1:=by unfold gM;rw[lI];omega
theorem F4 {R:It->It->Prop}(l:List It)(k:Int):(gM l k).Pairwise R:=by
 have:=nW l k;generalize gM l k=m at this
 match m,this with
 | [],_=>simp
 | [x],_=>simp
theorem Ic {l:List It}(h:d6 l=false):jE l=[]:=by simp[jE,h]
theorem Ac {l:List It}(h:d6 l=true):jE l=gM l 0++gM l 1++gM l 2++gM l 3:=by simp[jE,h]
theorem H3 (l:List It):(jE l).length<=4:=by
 unfold jE;split
 ·have:=nW l 0;have:=nW l 1;have:=nW l 2;have:=nW l 3;simp only[jU];omega
 ·simp
theorem AW {l:List It}(h:d6 l=true)(r:It):r∈jE l↔r∈bW l/\∀q∈bW l,q.1.1=r.1.1->cO q.1 r.1=false:=by
 rw[Ac h];have hs:=uE h;simp only[iC,GN hs];constructor
 ·rintro (((⟨h1,h2,h3⟩|⟨h1,h2,h3⟩)|⟨h1,h2,h3⟩)|⟨h1,h2,h3⟩)<;>exact⟨h1,fun q hq e=>h3 q hq (by omega)⟩
 ·rintro⟨h1,h2⟩;have:=CU h r h1;have e:r.1.1=0\/r.1.1=1\/r.1.1=2\/r.1.1=3:=by omega
  rcases e with e|e|e|e
  ·exact .inl (.inl (.inl ⟨h1,e,fun q hq g=>h2 q hq (by omega)⟩))
  ·exact .inl (.inl (.inr ⟨h1,e,fun q hq g=>h2 q hq (by omega)⟩))
  ·exact .inl (.inr ⟨h1,e,fun q hq g=>h2 q hq (by omega)⟩)
  ·exact .inr ⟨h1,e,fun q hq g=>h2 q hq (by omega)⟩
theorem Cd (l:List It):(jE l).Pairwise fun p q=>p.1.1<q.1.1:=by
 unfold jE;split
 ·refine vK (f:=gM l) (fun k r hr=>?_) (fun k=>F4 l k) (fun _ _ h=>h);unfold gM at hr
  simpa using (fV.1 (List.mem_of_mem_take hr)).2
 ·simp
theorem EF {l:List It}(h:l.Pairwise fun p q=>p.1.1<q.1.1):jX cO l:=nU.imp (fun g=>Fo g) h
theorem Gx {l:List It}(h:d6 l=true):d6 (jE l)=true:=
 AX (by have:=H3 l;omega) (fun r hr=>sC (AJ h) ((AW h r).1 hr).1) (EF (Cd l))
theorem KN {l m:List It}(h:d6 l=true)(hm:jX cO m)(g:∀r,r∈m↔r∈bW l/\∀q∈bW l,q.1.1=r.1.1->cO q.1 r.1=false):m=jE l:=
 yD eI hm (EF (Cd l)) fun r=>by rw[g,AW h]
open Go.RowKit
def gI (l:List It)(j:Nat):It:=(l[j]?).getD ((0,0),0)
def nT (l:List It)(j:Nat):Bool:=decide (j=0\/¬(gI l j).1.1=(gI l (j-1)).1.1)
def lL (l:List It)(m:Nat):List It:=((oJ m).filter (nT l)).map (gI l)
theorem pI {l:List It}(h:j<l.length):l[j]?=some (gI l j):=by
 unfold gI;rw[fD h];rfl
theorem AN (l:List It)(m:Nat):lL l (m+1)=lL l m++(if nT l m then [gI l m] else []):=by
 unfold lL;rw[List.range_succ,fH,qA]
 congr 1
 by_cases h:nT l m<;>simp[h]
theorem IE (l:List It)(m:Nat)(hm:m<=l.length):(oJ m).map (gI l)=l.take m:=by
 apply List.ext_getElem?
 intro i
 by_cases hi:i<m
 ·rw[oO,if_pos hi,pI (show i<l.length by omega)];simp[hi]
 ·rw[oO,if_neg hi,List.getElem?_eq_none (by simp;omega)]
theorem BX {l:List It}(hm:m<=l.length)(h:∀j,j<m->nT l j=true):lL l m=l.take m:=by
 unfold lL;rw[List.filter_eq_self.2 (fun j g=>h j (rN.1 g)),IE l m hm]
theorem Fx (l:List It):(lL l l.length).Sublist l:=by
 have h:(lL l l.length).Sublist ((oJ l.length).map (gI l)):=List.Sublist.map _ List.filter_sublist;rw[IE l _ (Nat.le_refl _),gY]at h;exact h
theorem JX {l:List It}(hm:0<m)(h1:(gI l m).1.1=(gI l (m-1)).1.1):nT l m=false:=by
 have:m≠0:=by omega
 simp[nT,h1,this]
theorem Bo {l:List It}(h:j<1):nT l j=true:=by
 have:j=0:=by omega
 simp[nT,this]
theorem Bh {l:List It}(h:¬(gI l m).1.1=(gI l (m-1)).1.1):nT l m=true:=by
 unfold nT;exact decide_eq_true (.inr h)
theorem MQ (l:List It)(r:It):r∈lL l l.length↔∃j,j<l.length/\nT l j=true/\l[j]?=some r:=by
 unfold lL;rw[sI];constructor
 ·rintro⟨j,g,rfl⟩;obtain⟨h1,h2⟩:=fV.1 g;have:=rN.1 h1;exact⟨j,this,h2,pI this⟩
 ·rintro⟨j,h1,h2,h3⟩;refine⟨j,fV.2 ⟨rN.2 h1,h2⟩,?_⟩;rw[pI h1]at h3;exact PC h3
theorem yB {l:List It}(h:jX cO l){a b:It}(g:i<j)(ha:l[i]?=some a)(A:l[j]?=some b):cO a.1 b.1=true:=by
 obtain⟨hi,F⟩:=kX.1 ha;obtain⟨w,B⟩:=kX.1 A;have:=(kR.1 h) i j hi w g;rw[F,B]at this;exact this
theorem Kz {l:List It}(h:d6 l=true):lL (bW l) (bW l).length=jE l:=by
 have hs:=uZ (uE h);refine KN h (hs.sublist (Fx _)) fun r=>?_;rw[MQ];generalize bW l=o at*;constructor
 ·rintro⟨j,A,H,hr⟩;refine⟨gZ hr,fun q hq e=>?_⟩;obtain⟨i,hi,G⟩:=mJ hq;have g:o[i]?=some q:=by rw[fD hi,G]
  by_cases J:i<j
  ·exfalso
   have I:j≠0:=by omega
   simp only[nT,decide_eq_true_eq]at H;have hne:=H.resolve_left I;have hp:=pI (l:=o) (j:=j-1) (by omega);have B:gI o j=r:=by rw[pI A]at hr;exact PC hr
   have h1:=yB hs (show j-1<j by omega) hp hr;rw[B]at hne
   by_cases h0:i=j-1
   ·subst h0;rw[g]at hp;rw[<- PC hp]at hne;exact hne e.symm
   ·have h2:=yB hs (show i<j-1 by omega) g hp;simp[cO]at h1 h2;omega
  ·by_cases h0:i=j
   ·subst h0;rw[hr]at g;cases g;exact eI.irr _
   ·have h1:=yB hs (show j<i by omega) hr g;cases h2:cO q.1 r.1
    ·rfl
    ·have:=eI.trans _ _ _ h1 h2;rw[eI.irr]at this;cases this
 ·rintro⟨hr,F⟩;obtain⟨j,A,G⟩:=mJ hr;have w:o[j]?=some r:=by rw[fD A,G]
  refine⟨j,A,?_,w⟩
  by_cases h0:j=0
  ·exact Bo (by omega)
  ·refine Bh fun e=>?_;have hp:=pI (l:=o) (j:=j-1) (by omega);have B:gI o j=r:=by rw[pI A]at w;exact PC w
   rw[B]at e;have h1:=yB hs (show j-1<j by omega) hp w;have h2:=F _ (gZ hp) e.symm;rw[h2]at h1;cases h1
structure uA (l:List It)(i j:Nat)(c:Array P2):Prop where
 lt:i<j
 le:j<=l.length
 len:(lL l j).length=i
 low:j6 rJ 3 c (lL l j) i
 high:∀m,i<=m->m<l.length->∀q,q<3->c[m*3+q]?=(rJ (gI l m))[q]?
theorem uA.start {l:List It}(A:k<l.length)(w:nT l k=false)(g:∀i,i<k->nT l i=true)(hf:j6 rJ 3 c l l.length):uA l k (k+1) c:=by
 have e:lL l (k+1)=l.take k:=by
  rw[AN,w,BX (by omega) g];simp
 refine⟨by omega,A,by rw[e,lI];omega,fun i x hi hx=>?_,fun m _ hm q hq=>hf m _ hm (pI hm) q hq⟩;rw[e,oO,if_pos hi]at hx;exact hf i x (by omega) hx
theorem uA.skip {l:List It}(h:uA l i j c)(w:j<l.length)(g:nT l j=false):uA l i (j+1) c:=by
 have e:lL l (j+1)=lL l j:=by rw[AN,g];simp
 exact⟨by have:=h.lt;omega,w,by rw[e];exact h.len,by rw[e];exact h.low,h.high⟩
theorem uA.keep {l:List It}(h:uA l i j c)(B:j<l.length)(hs:l.length*3<=c.size)(A:nT l j=true)(hg:gI l j=((K,V),D)):
  uA l (i+1) (j+1) (((c.setIfInBounds (i*3) (.int .i64 K)).setIfInBounds (i*3+1) (.int .i64 V)).setIfInBounds (i*3+2) (.int .i64 D)):=by
 have F:=h.lt;have g:=h.len;have e:lL l (j+1)=lL l j++[((K,V),D)]:=by rw[AN,A,hg];rfl
 refine⟨by omega,B,by rw[e,jU];simp[g],fun a x ha hx q hq=>?_,fun m a b q hq=>?_⟩
 ·rw[e]at hx
  by_cases w:a<i
  ·rw[List.getElem?_append_left (by omega)]at hx;rw[wH,if_neg (by omega),wH,if_neg (by omega),wH,if_neg (by omega)];exact h.low a x w hx q hq
  ·obtain rfl:a=i:=by omega
   rw[List.getElem?_append_right (by omega)]at hx;simp[g]at hx;subst hx;obtain rfl|rfl|rfl:q=0\/q=1\/q=2:=by omega
   ·rw[wH,if_neg (by omega),wH,if_neg (by omega),wH,if_pos (by omega),if_pos (by omega)];rfl
   ·rw[wH,if_neg (by omega),wH,if_pos (by omega),if_pos (by simp;omega)];rfl
   ·rw[wH,if_pos (by omega),if_pos (by simp;omega)];rfl
 ·rw[wH,if_neg (by omega),wH,if_neg (by omega),wH,if_neg (by omega)];exact h.high m (by omega) b q hq
theorem Gb (k v d:Int)(w:Oz):P3 wR 142 #[iv k v d] w fun e A=>e=.returned (.bool (lA ((k,v),d)))/\P5 w.heap.size w A:=by
 have H:Hid (lA ((k,v),d)=((cH k 0 3&&cH v 0 99)&&decide (d≠0)&&decide (-1099511627776<=d/\d<=1099511627776))):=rfl;have g:P5 w.heap.size w (w.alloc (.cells #[.int .i64 k,.int .i64 v,.int .i64 d] 98)):=aG (P8 _ _) _;cases h1:(cH k 0 3&&cH v 0 99)
 ·go_enter B3,AT
  go_wp2_with (go_at_call 194;refine (k8 (by with_reducible assumption) _).mono ?_;rintro e A ⟨rfl,rfl⟩)
  go_ret;exact⟨rB (by rw[H.out,h1];rfl),g⟩
 by_cases h3:d=0
 ·subst h3;go_enter B3,AT
  go_wp2_with (go_at_call 194;refine (k8 (by with_reducible assumption) _).mono ?_;rintro e A ⟨rfl,rfl⟩)
  go_ret;exact⟨rB (by rw[H.out];simp),g⟩
 have F:(d==0)=false:=by simpa using h3
 have B:Hid (lA ((k,v),d)=decide (-1099511627776<=d/\d<=1099511627776)):=by
  show _=_
  rw[H.out,h1];have:decide (d≠0)=true:=by simpa using h3
  rw[this];simp
 by_cases h4: -1099511627776<=d
 ·by_cases h5:d<=1099511627776
  all_goals
   go_enter B3,AT
   go_wp2_with (go_at_call 194;refine (k8 (by with_reducible assumption) _).mono ?_;rintro e A ⟨rfl,rfl⟩)
   go_ret;exact⟨rB (by have e:(d != 0)=true:=bne_iff_ne.2 h3;rw[B.out,e,Bool.eq_iff_iff];(simp<;>omega)),g⟩
 ·go_enter B3,AT
  go_wp2_with (go_at_call 194;refine (k8 (by with_reducible assumption) _).mono ?_;rintro e A ⟨rfl,rfl⟩)
  go_ret;exact⟨rB (by rw[B.out];simp;omega),g⟩
theorem sS {k v:Int}{r:Bool}(h:lA ((k,v),d)=r)(w:Oz):P3 wR 142 #[iv k v d] w fun e g=>e=.returned (.bool r)/\P5 w.heap.size w g:=by
 rw[<- h];exact Gb k v d w
theorem pM {k v g v' A r:Int}(h:wO (k,v) (g,v')=r)(w:Oz):P3 wR 143 #[iv k v d,iv g v' A] w fun e B=>e=.returned (.int .i64 r)/\P5 w.heap.size w B:=by
 rw[<- h,<-G6];exact (xV k v d g v' A w).mono fun _ _ ⟨h1,h2⟩=>⟨h1,h2.1⟩
theorem DB {l:List It}(h:∀j,j<k->iP l j=true)(g:iP l k=true)(w:j<k+1):iP l j=true:=by
 by_cases e:j=k
 ·subst e;exact g
 ·exact h j (by omega)
theorem Ix {l:List It}{r:It}(hr:l[k]?=some r)(h:lA r=false):iP l k=false:=by
 unfold iP;rw[hr];simp[h]
theorem Cq (v:P2)(l:List It)(w:Oz)(h:Is w v l):
  P3 wR 73 #[v] w fun e w'=>e=.returned (.bool (d6 l))/\P5 w.heap.size w w':=by
 obtain⟨a,z2,rfl,hc,hm,hn,H⟩:=Is.open h;unfold maxLen at hm;have HC:=(show Hid _ from H);clear H h
 by_cases h9:400<l.length
 ·have G:Hid (d6 l=false):=KF h9;have y1:(400:Int)<(l.length:Int):=by omega
  go_enter Ov,Lx;go_wp2_with fail;go_ret;exact⟨rB G.out.symm,P8 _ _⟩
 have HY:Hid ((∀i,i<l.length->iP l i=true)->d6 l=true):=fun h=>Hv (by omega) h;have HN:Hid (∀i,i<l.length->iP l i=false->d6 l=false):=fun i h1 h2=>NX h1 h2;go_enter Ov,Lx;go_wp2_with fail
 go_loopw [10] (fun i wr=>∃k:Nat,k<=l.length/\i=.int .i64 k/\(∀j,j<k->iP l j=true)/\P5 w.heap.size w wr) (fun i _=>l.length-(intOf i).toNat)
 case atStart=>exact⟨0,by omega,rfl,fun j Q=>by omega,P8 _ _⟩
 case round=>
  obtain⟨k,hk,rfl,T,N⟩:=hrel;have HA:=(show Hid _ from T);clear T
  by_cases O:k<l.length
  ·obtain⟨g,off,K,V,D,rfl,hg,hr,c0,c1,c2⟩:=HC.out k O;have d0:=cB N c0;have d1:=cB N c1;have d2:=cB N c2;have HR:=(show Hid _ from hr);clear c0 c1 c2 hr;have ik:((k:Int)<(l.length:Int)):=by omega
   have L:=Bk.new (w:=wr) #[.int .i64 K,.int .i64 V,.int .i64 D] 98 rfl;have Y:P5 wr.heap.size wr (wr.alloc (.cells #[.int .i64 K,.int .i64 V,.int .i64 D] 98)):=aG (P8 _ _) _;have F:=aH N Y
   go_upto_region 6 with fail
   clear d0 d1 d2;generalize wr.heap.size=Z at*;generalize PF _ _=I at*;have t0:∀p:dH I,p.ww.cell? ⟨Z,0,none⟩=some (.int .i64 K):=fun p=>(L.keep p.below).three.1;have t1:∀p:dH I,p.ww.cell? ⟨Z,1,none⟩=some (.int .i64 V):=fun p=>(L.keep p.below).three.2.1;have t2:∀p:dH I,p.ww.cell? ⟨Z,2,none⟩=some (.int .i64 D):=fun p=>(L.keep p.below).three.2.2;have hne:=jC I;clear L Y N;cases hI:lA ((K,V),D)
   ·have G:Hid (d6 l=false):=HN.out k O (Ix HR.out hI);go_wp2_with fail
    (refine jJ (by kernel_rfl) (by kernel_rfl) ?_;(repeat (go_big_quiet_step ((first|(go_at_call 142;exact iJ (sS (by with_reducible assumption) _))|(go_at_call 143;exact iJ (pM (by with_reducible assumption) _))))));refine P4 ?_)
    intro w1 A
    replace A:=jM A
    go_wp2_with fail;go_ret;exact⟨rB G.out.symm,aH F A⟩
   rcases k with _|m
   ·have M:Hid (iP l 0=true):=by show _=true;rw[zT HR.out];exact hI
    go_wp2_with fail
    (refine jJ (by kernel_rfl) (by kernel_rfl) ?_;(repeat (go_big_quiet_step ((first|(go_at_call 142;exact iJ (sS (by with_reducible assumption) _))|(go_at_call 143;exact iJ (pM (by with_reducible assumption) _))))));refine P4 ?_)
    intro w1 A
    replace A:=jM A
    have S:=aH F A;go_wp2_with fail;exact⟨⟨1,by omega,rfl,fun j Q=>DB HA.out M.out Q,S⟩,by simp[intOf];omega⟩
   ·obtain⟨g',y3,W,U,D',he,z1,hq,p0,p1,p2⟩:=HC.out m (by omega);simp at he;obtain⟨rfl,rfl⟩:=he;have e0:∀p:dH I,p.ww.cell? ⟨g,off+m*3,none⟩=some (.int .i64 W):=fun p=>cB p.below (cB F p0);have e1:∀p:dH I,p.ww.cell? ⟨g,off+m*3+1,none⟩=some (.int .i64 U):=fun p=>cB p.below (cB F p1);have e2:∀p:dH I,p.ww.cell? ⟨g,off+m*3+2,none⟩=some (.int .i64 D'):=fun p=>cB p.below (cB F p2);clear p0 p1 p2;have M:Hid (iP l (m+1)=cO (W,U) (K,V)):=by show _=_;rw[vT HR.out hq,hI,Bool.true_and]
    clear hq;have z0:(0:Int)<=(m:Int):=by omega
    have y9:(m:Int)<(l.length:Int):=by omega
    have y8:(l.length:Int)<=2097152:=by omega
    have iw:P7.wrap (m:Int)=(m:Int):=by rw[P6];omega
    have B:=GD (W,U) (K,V);obtain⟨r,x7⟩:∃r,wO (W,U) (K,V)=r:=⟨_,rfl⟩;rw[x7]at B;cases J:cO (W,U) (K,V)
    ·have G:Hid (d6 l=false):=HN.out (m+1) O (by rw[M.out];exact J);have nr:decide (0<=r)=true:=by rw[J]at B;simp at B ⊢;omega
     clear B;go_wp2_with fail
     (refine jJ (by kernel_rfl) (by kernel_rfl) ?_;(repeat (go_big_quiet_step ((first|(go_at_call 142;exact iJ (sS (by with_reducible assumption) _))|(go_at_call 143;exact iJ (pM (by with_reducible assumption) _))))));refine P4 ?_)
     intro w1 A
     replace A:=jM A
     go_wp2_with fail;go_ret;exact⟨rB G.out.symm,aH F A⟩
    ·have G:Hid (iP l (m+1)=true):=by show _=true;rw[M.out];exact J
     have nr:decide (0<=r)=false:=by rw[J]at B;simp at B ⊢;omega
     clear B;go_wp2_with fail
     (refine jJ (by kernel_rfl) (by kernel_rfl) ?_;(repeat (go_big_quiet_step ((first|(go_at_call 142;exact iJ (sS (by with_reducible assumption) _))|(go_at_call 143;exact iJ (pM (by with_reducible assumption) _))))));refine P4 ?_)
     intro w1 A
     replace A:=jM A
     have S:=aH F A;go_wp2_with fail;go_roundw
     case rel=>exact⟨m+1+1,by omega,by go_num,fun j Q=>DB HA.out G.out Q,S⟩
     case measure=>simp[intOf];omega
  ·have G:Hid (d6 l=true):=HY.out fun j Q=>HA.out j (by omega);go_wp2_with fail;go_ret;exact⟨rB G.out.symm,N⟩
theorem nY {l:List It}{r:Bool}(h:d6 l=r){v:P2}{w:Oz}(hs:Is w v l):
  P3 wR 73 #[v] w fun e g=>e=.returned (.bool r)/\P5 w.heap.size w g:=by
 rw[<- h];exact Cq v l w hs
theorem rO {l:List It}(h:l[k]?=some (s,d))(hd:0<d):bW (l.take (k+1))=bW (l.take k)++[(s,1)]:=by
 unfold bW;rw[gL h,fH,qA];simp[hd]
theorem yO {l:List It}(h:l[k]?=some (s,d))(hd:¬0<d):bW (l.take (k+1))=bW (l.take k):=by
 unfold bW;rw[gL h,fH,qA];simp[hd]
theorem Gu {l:List It}(h:d6 l=true)(hr:l[k]?=some (s,d)): -1099511627776<=d/\d<=1099511627776:=by
 have:=oW (sC h (gZ hr));exact⟨this.2.2.2.2.2.1,this.2.2.2.2.2.2⟩
theorem tJ (v:P2)(l:List It)(w:Oz)(h:Is w v l):
  P3 wR 199 #[v] w fun e S=>∃o:P2,e=.returned o/\bZ S w.heap.size o (lO l)/\P5 w.heap.size w S:=by
 cases F:d6 l
 ·have HF:Hid (lO l=[]):=DW F;go_enter Md,EJ;go_wp2_with fail;refine (nY F h).mono ?_;rintro e w1 ⟨rfl,B⟩;go_wp2_with fail;go_ret;refine⟨_,rfl,?_,B⟩;rw[HF.out];exact oN _ _ _ _ _
 have HF:Hid (lO l=bW l):=sM F;have hl:=mC F;go_enter Md,EJ;go_wp2_with fail;refine (nY F h).mono ?_;rintro e w1 ⟨rfl,B⟩;have T:=B.size;obtain⟨a,y4,rfl,hc,hm,hn,A⟩:=Is.open (h.keep B);unfold maxLen at hm;have HC:=(show Hid _ from A);clear A h F;go_wp2_with fail
 go_loopw [3,11] (fun o i wr=>∃k:Nat,k<=l.length/\i=.int .i64 k/\bZ wr w1.heap.size o (bW (l.take k))/\P5 w1.heap.size w1 wr) (fun _ i _=>l.length-(intOf i).toNat)
 case atStart=>exact⟨0,by omega,rfl,oN _ _ _ _ _,P8 _ _⟩
 case round=>
  obtain⟨k,y3,rfl,I,G⟩:=hrel;have M:Hid (bZ wr w1.heap.size u3 (bW (l.take k))):=I;clear I;have y0:=G.size
  by_cases U:k<l.length
  ·obtain⟨g,off,K,V,D,rfl,hg,hr,c0,c1,c2⟩:=HC.out k U;have Z:=cB G c0;have d1:=cB G c1;have d2:=cB G c2;have ik:((k:Int)<(l.length:Int)):=by omega
   have hL:(bW (l.take k)).length<=1000000:=by have:=vF (l.take k);simp at this;omega
   have bx:=Bk.new (w:=wr) #[.int .i64 K,.int .i64 V,.int .i64 D] 98 rfl;have J:P5 w1.heap.size w1 (wr.alloc (.cells #[.int .i64 K,.int .i64 V,.int .i64 D] 98)):=aG G _;have H:bZ (wr.alloc (.cells #[.int .i64 K,.int .i64 V,.int .i64 D] 98)) w1.heap.size u3 (bW (l.take k)):=M.out.alloc _;have y1:=J.size;clear c0 c1 c2 M
   by_cases Y:0<D
   ·have O:=(show Hid _ from rO hr Y);clear hr;generalize bW (l.take k)=LL at*
    go_upto_region 7 with fail
    clear Z d1 d2;generalize wr.heap.size=tb at*;generalize PF _ _=Q at*;obtain⟨q0,q1,q2⟩:=bx.three
    go_wp2_with (at_builtin;refine vB _ rfl _ _ rfl w1.heap.size _ LL rfl (H.alloc _) _ K V 1 rfl (Bk.new _ _ rfl) (by omega) (by simp;omega) ?_;intro g9 x6 w9 N L y2)
    have W:P5 w1.heap.size w1 w9:=Below.aO (aG J _) L (by simp;omega) (oB H);exact⟨⟨k+1,by omega,by go_num,by rw[O.out];exact N,W⟩,by simp[intOf];omega⟩
   ·have O:=(show Hid _ from yO hr Y);clear hr
    go_upto_region 7 with fail
    clear Z d1 d2;generalize wr.heap.size=tb at*;generalize PF _ _=Q at*;obtain⟨q0,q1,q2⟩:=bx.three;have O2:Hid (bZ Q w1.heap.size u3 (bW (l.take k))):=H;clear H;go_wp2_with fail;go_roundw
    case rel=>exact⟨k+1,by omega,by go_num,by rw[O.out];exact O2.out,J⟩
    case measure=>simp[intOf];omega
  ·obtain rfl:k=l.length:=by omega
   have H:Hid (bZ wr w1.heap.size u3 (bW l)):=by have:=M.out;rw[gY]at this;exact this
   clear M;go_wp2_with fail;go_ret;refine⟨_,rfl,?_,aH B G⟩;rw[HF.out];exact bQ H.out T
open Go.Shelf
theorem vL {l:List It}(h:d6 l=true)(k:Nat):aM (l.take k)<=1099511627776*400:=Int.le_trans (qQ l k) (Mb h)
theorem AH {l:List It}(h:l[k]?=some ((K,V),D))(e:K=key):bU (l.take (k+1)) key=bU (l.take k) key+D:=by
 rw[gL h,nI];simp[e]
theorem BS {l:List It}(h:l[k]?=some ((K,V),D))(e:K≠key):bU (l.take (k+1)) key=bU (l.take k) key:=by
 rw[gL h,nI];simp[e]
theorem J0 (n:Int):((n.tmod 100)+100)%100=n%100:=by
 have h1:=Int.tmod_add_mul_tdiv n 100;omega
theorem An {l:List It}(hr:l[k]?=some ((K,V),D))(w:K≠key):((bW (l.take (k+1))).filter fun r=>decide (r.1.1=key))=((bW (l.take k)).filter fun r=>decide (r.1.1=key)):=by
 by_cases g:0<D
 ·rw[rO hr g,fH];simp[w]
 ·rw[yO hr g]
theorem F8 (n:Int)(w:Oz):P3 wR 269 #[.int .i64 n] w fun e g=>e=.returned (.int .i64 (n%100))/\P5 w.heap.size w g:=by
 have B:=PH n (b:=100) (by omega);have A: -100<n.tmod 100:=by have:=PI n (b:=100) (by omega);omega
 have H:=(show Hid _ from J0 n);go_enter Tryz.func269,Tryz.ntmps269;go_wp2_with fail;go_ret;exact⟨Fv H.out,P8 _ _⟩
theorem nM (n:Int)(w:Oz):P3 wR 235 #[.int .i64 n] w fun e g=>e=.returned (.int .i64 (n%100))/\P5 w.heap.size w g:=by
 have B:=PH n (b:=100) (by omega);have A: -100<n.tmod 100:=by have:=PI n (b:=100) (by omega);omega
 have H:=(show Hid _ from J0 n);go_enter Tryz.func235,Tryz.ntmps235;go_wp2_with fail;go_ret;exact⟨Fv H.out,P8 _ _⟩
theorem MI (v:P2)(l:List It)(key:Int)(w:Oz)(h:Is w v l)(hs:d6 l=true):
  P3 wR 256 #[v,.int .i64 key,.int .i64 1] w fun e W=>∃o:P2,e=.returned o/\bZ W w.heap.size o (kC l key)/\P5 w.heap.size w W:=by
 obtain⟨a,y4,rfl,hc,hm,hn,B⟩:=Is.open h;unfold maxLen at hm;have HC:=(show Hid _ from B);have hl:=mC hs;have HD:Hid (∀(k:Nat)(s:Int×Int)(d:Int),l[k]?=some (s,d) -> -1099511627776<=d/\d<=1099511627776):=fun k s d hr=>Gu hs hr;have HN:Hid (∀k:Nat,-(1099511627776*400)<=bU (l.take k) key/\bU (l.take k) key<=1099511627776*400):=fun k=>by
  have h1:=uQ (l.take k) key;have h2:=vL hs k;omega
 clear B h hs;have Y:=mE w rfl;have M:=aG (P8 _ w) (.cells #[] 98);go_enter E0,BK;go_wp2_with fail
 go_loopw [7,8,9] (fun o n i wr=>∃k:Nat,k<=l.length/\i=.int .i64 k/\n=.int .i64 (bU (l.take k) key)/\bZ wr w.heap.size o (([]:List It))/\P5 w.heap.size w wr) (fun _ _ i _=>l.length-(intOf i).toNat)
 case atStart=>exact⟨0,by omega,rfl,rfl,Y,M⟩
 case round=>
  clear Y M;obtain⟨k,y1,rfl,rfl,G,A⟩:=hrel;have H:Hid (bZ wr w.heap.size u7 (([]:List It))):=G;obtain⟨n1,n2⟩:=HN.out k;have x8:=A.size;clear G
  by_cases Z:k<l.length
  ·obtain⟨g,off,K,V,D,rfl,hg,hr,c0,c1,c2⟩:=HC.out k Z;obtain⟨y3,y2⟩:=HD.out k _ _ hr;have d0:=cB A c0;have d1:=cB A c1;have d2:=cB A c2;have ik:((k:Int)<(l.length:Int)):=by omega
   clear c0 c1 c2
   by_cases Q:K=key
   ·subst Q;have J:=(show Hid _ from AH hr rfl);clear hr;generalize bU (l.take k) K=F at*
    by_cases hD:0<D
    ·go_wp2_with fail;go_roundw
     case rel=>exact⟨k+1,by omega,by go_num,by rw[J.out],H.out,A⟩
     case measure=>simp[intOf];omega
    ·go_wp2_with fail;go_roundw
     case rel=>exact⟨k+1,by omega,by go_num,by rw[J.out],H.out,A⟩
     case measure=>simp[intOf];omega
   ·have nK:(K==key)=false:=by simpa using Q
    have J:=(show Hid _ from BS hr Q);have HZ:Hid (([]:List It)=([]:List It)):=rfl;clear hr;generalize bU (l.take k) key=F at*;go_wp2_with fail;go_roundw
    case rel=>exact⟨k+1,by omega,by go_num,by rw[J.out],by rw[HZ.out];exact H.out,A⟩
    case measure=>simp[intOf];omega
  ·obtain rfl:k=l.length:=by omega
   have HK:Hid (kC l key=if bU (l.take l.length) key=0 then [] else [((key,bU (l.take l.length) key%100),1)]):=by show _=_;rw[gY];rfl
   generalize bU (l.take l.length) key=F at*
   by_cases h0:F=0
   ·subst h0;have T:Hid (bZ wr w.heap.size u7 (kC l key)):=by rw[HK.out,if_pos rfl];exact H.out
    go_wp2_with fail;go_ret;exact⟨_,rfl,T.out,A⟩
   ·have n0:(F==0)=false:=by simpa using h0
    go_wp2_with fail;refine (F8 F _).mono ?_;rintro e w1 ⟨rfl,N⟩;have L:=aH A N;have x9:=L.size;have O2:bZ w1 w.heap.size u7 []:=bJ H.out N
    go_wp2_with (at_builtin;refine vB _ rfl _ _ rfl w.heap.size _ [] rfl (O2.alloc _) _ key (F%100) 1 rfl (Bk.new _ _ rfl) (by simp) (by simp;omega) ?_;intro g9 S U O I y0)
    have h9:P5 w.heap.size w U:=Below.aO (aG L _) I (by simp;omega) (oB O2);have T:Hid (bZ U w.heap.size (.slice (some ⟨g9,0,none⟩) (([]:List It).length+1) S) (kC l key)):=by rw[HK.out,if_neg h0];exact O
    go_ret;exact⟨_,rfl,T.out,h9⟩
theorem Ma (v:P2)(l:List It)(key:Int)(w:Oz)(h:Is w v l)(hs:d6 l=true):
  P3 wR 256 #[v,.int .i64 key,.int .i64 2] w fun e Q=>∃o:P2,e=.returned o/\bZ Q w.heap.size o ((bW l).filter fun r=>decide (r.1.1=key))/\P5 w.heap.size w Q:=by
 obtain⟨a,y1,rfl,hc,hm,hn,A⟩:=Is.open h;unfold maxLen at hm;have HC:=(show Hid _ from A);have hl:=mC hs;have HD:Hid (∀(k:Nat)(s:Int×Int)(d:Int),l[k]?=some (s,d) -> -1099511627776<=d/\d<=1099511627776):=fun k s d hr=>Gu hs hr;have HN:Hid (∀k:Nat,-(1099511627776*400)<=bU (l.take k) key/\bU (l.take k) key<=1099511627776*400):=fun k=>by
  have h1:=uQ (l.take k) key;have h2:=vL hs k;omega
 clear A h hs;have S:=mE w rfl;have M:=aG (P8 _ w) (.cells #[] 98);go_enter E0,BK;go_wp2_with fail
 go_loopw [7,8,9] (fun o n i wr=>∃k:Nat,k<=l.length/\i=.int .i64 k/\n=.int .i64 (bU (l.take k) key)/\bZ wr w.heap.size o ((bW (l.take k)).filter fun r=>decide (r.1.1=key))/\P5 w.heap.size w wr) (fun _ _ i _=>l.length-(intOf i).toNat)
 case atStart=>exact⟨0,by omega,rfl,rfl,S,M⟩
 case round=>
  clear S M;obtain⟨k,x8,rfl,rfl,F,B⟩:=hrel;have H:Hid (bZ wr w.heap.size u7 ((bW (l.take k)).filter fun r=>decide (r.1.1=key))):=F;obtain⟨n1,n2⟩:=HN.out k;have x6:=B.size;clear F
  by_cases T:k<l.length
  ·obtain⟨g,off,K,V,D,rfl,hg,hr,Y,c1,c2⟩:=HC.out k T;obtain⟨y0,x9⟩:=HD.out k _ _ hr;have d0:=cB B Y;have d1:=cB B c1;have d2:=cB B c2;have ik:((k:Int)<(l.length:Int)):=by omega
   clear Y c1 c2
   by_cases J:K=key
   ·subst J;have L:=(show Hid _ from AH hr rfl)
    by_cases W:0<D
    ·have G:Hid (((bW (l.take (k+1))).filter fun r=>decide (r.1.1=K))=((bW (l.take k)).filter fun r=>decide (r.1.1=K))++[((K,V),1)]):=by show _=_;rw[rO hr W,fH];simp
     have hL:((bW (l.take k)).filter fun r=>decide (r.1.1=K)).length<=1000000:=by have h1:=sE (fun r:It=>decide (r.1.1=K)) (bW (l.take k));have h2:=vF (l.take k);simp at h2;omega
     have Z:bZ wr w.heap.size u7 ((bW (l.take k)).filter fun r=>decide (r.1.1=K)):=H.out;clear hr H;generalize ((bW (l.take k)).filter fun r=>decide (r.1.1=K))=LL at*;generalize bU (l.take k) K=O at*
     go_wp2_with (at_builtin;refine vB _ rfl _ _ rfl w.heap.size _ LL rfl (Z.alloc _) _ K V 1 rfl (Bk.new _ _ rfl) (by omega) (by simp;omega) ?_;intro g9 x0 w9 N I x7)
     have U:P5 w.heap.size w w9:=Below.aO (aG B _) I (by simp;omega) (oB Z);exact⟨⟨k+1,by omega,by go_num,by rw[L.out],by rw[G.out];exact N,U⟩,by simp[intOf];omega⟩
    ·have G:Hid (((bW (l.take (k+1))).filter fun r=>decide (r.1.1=K))=((bW (l.take k)).filter fun r=>decide (r.1.1=K))):=by show _=_;rw[yO hr W]
     clear hr;generalize bU (l.take k) K=O at*;go_wp2_with fail;go_roundw
     case rel=>exact⟨k+1,by omega,by go_num,by rw[L.out],by rw[G.out];exact H.out,B⟩
     case measure=>simp[intOf];omega
   ·have nK:(K==key)=false:=by simpa using J
    have L:=(show Hid _ from BS hr J);have G:Hid (((bW (l.take (k+1))).filter fun r=>decide (r.1.1=key))=((bW (l.take k)).filter fun r=>decide (r.1.1=key))):=by show _=_;rw[An hr J]
    clear hr;generalize bU (l.take k) key=O at*;go_wp2_with fail;go_roundw
    case rel=>exact⟨k+1,by omega,by go_num,by rw[L.out],by rw[G.out];exact H.out,B⟩
    case measure=>simp[intOf];omega
  ·obtain rfl:k=l.length:=by omega
   have HR:Hid (bZ wr w.heap.size u7 ((bW l).filter fun r=>decide (r.1.1=key))):=by have:=H.out;rw[gY]at this;exact this
   generalize bU (l.take l.length) key=O at*;go_wp2_with fail;go_ret;exact⟨_,rfl,HR.out,B⟩
theorem MU (v:P2)(l:List It)(key:Int)(w:Oz)(h:Is w v l)(hs:d6 l=true):
  P3 wR 256 #[v,.int .i64 key,.int .i64 3] w fun e Y=>∃o:P2,e=.returned o/\bZ Y w.heap.size o (gM l key)/\P5 w.heap.size w Y:=by
 obtain⟨a,y7,rfl,hc,hm,hn,B⟩:=Is.open h;unfold maxLen at hm;have HC:=(show Hid _ from B);have hl:=mC hs;have HD:Hid (∀(k:Nat)(s:Int×Int)(d:Int),l[k]?=some (s,d) -> -1099511627776<=d/\d<=1099511627776):=fun k s d hr=>Gu hs hr;have HN:Hid (∀k:Nat,-(1099511627776*400)<=bU (l.take k) key/\bU (l.take k) key<=1099511627776*400):=fun k=>by
  have h1:=uQ (l.take k) key;have h2:=vL hs k;omega
 clear B h hs;have Z:=mE w rfl;have S:=aG (P8 _ w) (.cells #[] 98);go_enter E0,BK;go_wp2_with fail
 go_loopw [7,8,9] (fun o n i wr=>∃k:Nat,k<=l.length/\i=.int .i64 k/\n=.int .i64 (bU (l.take k) key)/\bZ wr w.heap.size o (((bW (l.take k)).filter fun r=>decide (r.1.1=key)).take 1)/\P5 w.heap.size w wr) (fun _ _ i _=>l.length-(intOf i).toNat)
 case atStart=>exact⟨0,by omega,rfl,rfl,Z,S⟩
 case round=>
  clear Z S;obtain⟨k,y4,rfl,rfl,J,A⟩:=hrel;have G:Hid (bZ wr w.heap.size u7 (((bW (l.take k)).filter fun r=>decide (r.1.1=key)).take 1)):=J;obtain⟨n1,n2⟩:=HN.out k;have y2:=A.size;clear J
  by_cases h9:k<l.length
  ·obtain⟨g,off,K,V,D,rfl,hg,hr,c0,c1,c2⟩:=HC.out k h9;obtain⟨y6,y5⟩:=HD.out k _ _ hr;have d0:=cB A c0;have d1:=cB A c1;have d2:=cB A c2;have ik:((k:Int)<(l.length:Int)):=by omega
   clear c0 c1 c2
   by_cases Q:K=key
   ·subst Q;have L:=(show Hid _ from AH hr rfl);have M:Hid (bZ wr w.heap.size u7 (((bW (l.take k)).filter fun r=>decide (r.1.1=K)).take 1)):=G.out;have R0:Is wr u7 (((bW (l.take k)).filter fun r=>decide (r.1.1=K)).take 1):=bZ.is G.out (by simp;omega);obtain⟨a7,W,H,-,-,-,-⟩:=R0
    by_cases U:0<D
    ·by_cases I:(((bW (l.take k)).filter fun r=>decide (r.1.1=K)).take 1).length=0
     ·have h0:(bW (l.take k)).filter (fun r=>decide (r.1.1=K))=[]:=by
       rw[lI]at I;exact List.eq_nil_of_length_eq_zero (by omega)
      have e0:(((bW (l.take k)).filter fun r=>decide (r.1.1=K)).take 1)=[]:=by rw[h0];rfl
      have F:Hid ((((bW (l.take (k+1))).filter fun r=>decide (r.1.1=K)).take 1)=[((K,V),1)]):=by show _=_;rw[rO hr U,fH,h0];simp
      have O1:bZ wr w.heap.size u7 []:=by have:=G.out;rw[e0]at this;exact this
      have hu:u7=.slice a7 0 W:=by rw[H,e0];rfl
      subst hu;clear hr G M I h0 e0 H;generalize bU (l.take k) K=N at*
      go_wp2_with (at_builtin;refine vB _ rfl _ _ rfl w.heap.size _ [] rfl (O1.alloc _) _ K V 1 rfl (Bk.new _ _ rfl) (by simp) (by simp;omega) ?_;intro g9 x5 w9 T O y3)
      have x0:P5 w.heap.size w w9:=Below.aO (aG A _) O (by simp;omega) (oB O1);exact⟨⟨k+1,by omega,by go_num,by rw[L.out],by rw[F.out];exact T,x0⟩,by simp[intOf];omega⟩
     ·have F:Hid ((((bW (l.take (k+1))).filter fun r=>decide (r.1.1=K)).take 1)=(((bW (l.take k)).filter fun r=>decide (r.1.1=K)).take 1)):=by
       show _=_
       rw[rO hr U,fH,List.take_append_of_le_length (by rw[lI]at I;omega)]
      have nz:(((((bW (l.take k)).filter fun r=>decide (r.1.1=K)).take 1).length:Int)==0)=false:=by simpa using I
      clear hr I G;generalize (((bW (l.take k)).filter fun r=>decide (r.1.1=K)).take 1)=XX at*;subst H;generalize bU (l.take k) K=N at*;go_wp2_with fail;go_roundw
      case rel=>exact⟨k+1,by omega,by go_num,by rw[L.out],by rw[F.out];exact M.out,A⟩
      case measure=>simp[intOf];omega
    ·have F:Hid ((((bW (l.take (k+1))).filter fun r=>decide (r.1.1=K)).take 1)=(((bW (l.take k)).filter fun r=>decide (r.1.1=K)).take 1)):=by show _=_;rw[yO hr U]
     clear hr;subst H;generalize bU (l.take k) K=N at*;go_wp2_with fail;go_roundw
     case rel=>exact⟨k+1,by omega,by go_num,by rw[L.out],by rw[F.out];exact M.out,A⟩
     case measure=>simp[intOf];omega
   ·have nK:(K==key)=false:=by simpa using Q
    have L:=(show Hid _ from BS hr Q);have F:Hid ((((bW (l.take (k+1))).filter fun r=>decide (r.1.1=key)).take 1)=((bW (l.take k)).filter fun r=>decide (r.1.1=key)).take 1):=by show _=_;rw[An hr Q]
    clear hr;generalize bU (l.take k) key=N at*;go_wp2_with fail;go_roundw
    case rel=>exact⟨k+1,by omega,by go_num,by rw[L.out],by rw[F.out];exact G.out,A⟩
    case measure=>simp[intOf];omega
  ·obtain rfl:k=l.length:=by omega
   have HR:Hid (bZ wr w.heap.size u7 (gM l key)):=by have:=G.out;rw[gY]at this;exact this
   generalize bU (l.take l.length) key=N at*;go_wp2_with fail;go_ret;exact⟨_,rfl,HR.out,A⟩
def dQ (f:Int->List It):Nat->List It
 | 0=>[]
 | k+1=>dQ f k++f k
theorem K0 {f:Int->List It}{c:Nat}(h:∀k,(f k).length<=c)(k:Nat):(dQ f k).length<=k*c:=by
 induction k with
 | zero=>simp[dQ]
 | succ k ih=>have:=h k;simp only[dQ,jU,Nat.add_mul];omega
theorem J4 (f:Int->List It):dQ f 4=f 0++f 1++f 2++f 3:=by simp[dQ]
open Go.ChangeMaps (setBlock)
theorem OG (h:mM s):thOk s:=by
 obtain⟨h1,h2,h3,h4⟩:=h;exact⟨by unfold nS;omega,by unfold nS;omega⟩
theorem Bk.dp {w:Oz}{F B A g:P2}{t:TypeId}(h:Bk w k #[F,B,A,g] t):
  w.cell? ⟨k,0,none⟩=some F/\w.cell? ⟨k,1,none⟩=some B/\w.cell? ⟨k,2,none⟩=some A/\w.cell? ⟨k,3,none⟩=some g:=by
 unfold Bk at h;simp[Oz.cell?,h]
theorem Jc (n0 n1 n2 g:Int)(u:Oz):(PG 276 (.agg #[.int .i64 n0,.int .i64 n1,.int .i64 n2,.int .i64 g]) (.int .i64 0)).run wR u=.ok (.int .i64 n0) u:=by kernel_rfl
theorem Ja (n0 n1 n2 g:Int)(u:Oz):(PG 276 (.agg #[.int .i64 n0,.int .i64 n1,.int .i64 n2,.int .i64 g]) (.int .i64 1)).run wR u=.ok (.int .i64 n1) u:=by kernel_rfl
theorem J5 (n0 n1 n2 g:Int)(u:Oz):(PG 276 (.agg #[.int .i64 n0,.int .i64 n1,.int .i64 n2,.int .i64 g]) (.int .i64 2)).run wR u=.ok (.int .i64 n2) u:=by kernel_rfl
theorem Jj (n0 n1 n2 g:Int)(u:Oz):(PG 276 (.agg #[.int .i64 n0,.int .i64 n1,.int .i64 n2,.int .i64 g]) (.int .i64 3)).run wR u=.ok (.int .i64 g) u:=by kernel_rfl
theorem AP (v:P2)(l:List It)(w:Oz)(h:Is w v l):
  P3 wR 198 #[v] w fun e w'=>∃o:P2,e=.returned o/\bZ w' w.heap.size o (jR l)/\P5 w.heap.size w w':=by
 cases hk:d6 l
 ·have HF:Hid (jR l=[]):=I9 hk;go_enter Nh,Ga;go_wp2_with fail;refine (nY hk h).mono ?_;rintro e w1 ⟨rfl,x6⟩;go_wp2_with fail;go_ret;refine⟨_,rfl,?_,x6⟩;rw[HF.out];exact oN _ _ _ _ _
 have HF:Hid (jR l=dQ (kC l) 4):=by show _=_;rw[J4];exact AY hk
 have hl:=mC hk;have HN:Hid (∀(k:Nat)(key:Int),-(1099511627776*400)<=bU (l.take k) key/\bU (l.take k) key<=1099511627776*400):=fun k key=>by
  have h1:=uQ (l.take k) key;have h2:=vL hk k;omega
 have HP:Hid (∀(k:Nat)(K V D:Int),l[k]?=some ((K,V),D)->0<=K/\K<=3 /\ -1099511627776<=D/\D<=1099511627776):=fun k K V D hr=>by
  have:=oW (sC hk (gZ hr));simp only at this;omega
 go_enter Nh,Ga;go_wp2_with fail;refine (nY hk h).mono ?_;rintro e w1 ⟨rfl,x6⟩;have a2:=x6.size;obtain⟨a,a6,rfl,hc,hm,hn,x5⟩:=Is.open (h.keep x6);unfold maxLen at hm;have HC:=(show Hid _ from x5);clear x5 h hk;have b0:Bk (w1.alloc (.cells #[.int .i64 0,.int .i64 0,.int .i64 0,.int .i64 0] 276)) w1.heap.size #[.int .i64 0,.int .i64 0,.int .i64 0,.int .i64 0] 276:=Bk.new _ _ rfl;have z4:P5 w1.heap.size w1 (w1.alloc (.cells #[.int .i64 0,.int .i64 0,.int .i64 0,.int .i64 0] 276)):=aG (P8 _ _) _;go_wp2_with fail
 go_loopw [14] (fun i wr=>∃k:Nat,k<=l.length/\i=.int .i64 k/\Bk wr w1.heap.size #[.int .i64 (bU (l.take k) 0),.int .i64 (bU (l.take k) 1),.int .i64 (bU (l.take k) 2),.int .i64 (bU (l.take k) 3)] 276/\P5 w1.heap.size w1 wr) (fun i _=>l.length-(intOf i).toNat)
 case atStart=>exact⟨0,by omega,rfl,b0,z4⟩
 case round=>
  clear b0 z4;obtain⟨k,a4,rfl,x0,hb⟩:=hrel;obtain⟨m0,v1⟩:=HN.out k 0;obtain⟨m1,v0⟩:=HN.out k 1;obtain⟨m2,u8⟩:=HN.out k 2;obtain⟨m3,u4⟩:=HN.out k 3;have a1:=hb.size;have a3:=x0.lt
  by_cases z2:k<l.length
  ·obtain⟨g,off,K,V,D,rfl,hg,hr,c0,c1,c2⟩:=HC.out k z2;obtain⟨p0,p1,p2,p3⟩:=HP.out k _ _ _ hr;have d0:=cB hb c0;have d1:=cB hb c1;have d2:=cB hb c2;have ik:((k:Int)<(l.length:Int)):=by omega
   have N:Hid (bU (l.take (k+1)) 0=bU (l.take k) 0+(if K=0 then D else 0)/\bU (l.take (k+1)) 1=bU (l.take k) 1+(if K=1 then D else 0)/\bU (l.take (k+1)) 2=bU (l.take k) 2+(if K=2 then D else 0)/\bU (l.take (k+1)) 3=bU (l.take k) 3+(if K=3 then D else 0)):=by rw[gL hr];exact⟨nI _ _ _,nI _ _ _,nI _ _ _,nI _ _ _⟩
   have bx:=Bk.new (w:=wr) #[.int .i64 K,.int .i64 V,.int .i64 D] 98 rfl;have y3:P5 w1.heap.size w1 (wr.alloc (.cells #[.int .i64 K,.int .i64 V,.int .i64 D] 98)):=aG hb _;have bs:=x0.alloc (.cells #[.int .i64 K,.int .i64 V,.int .i64 D] 98);clear c0 c1 c2 hr x0;generalize bU (l.take k) 0=n0 at*;generalize bU (l.take k) 1=n1 at*;generalize bU (l.take k) 2=n2 at*;generalize bU (l.take k) 3=A at*
   go_upto_region 7 with fail
   clear d0 d1 d2;generalize wr.heap.size=tb at*;generalize PF _ _=wx at*;obtain⟨q0,q1,q2⟩:=bx.three;obtain⟨s0,s1,s2,s3⟩:=bs.dp;obtain rfl|rfl|rfl|rfl:K=0\/K=1\/K=2\/K=3:=by omega
   ·have iw:P7.wrap (n0+D)=n0+D:=by rw[P6];omega
    have fj:=bs.free 0
    go_region
    have Y:=(bs.set 0 (.int .i64 (n0+D))).drew;have Q:P5 w1.heap.size w1 (wx.setCell ⟨w1.heap.size,0,none⟩ (.int .i64 (n0+D))).drew:=(y3.setCell (by simp) _).drew;generalize (wx.setCell ⟨w1.heap.size,0,none⟩ (.int .i64 (n0+D))).drew=w7 at*;obtain⟨e0,U,T,S⟩:=N.out;have F:Hid (bU (l.take (k+1)) 0=n0+D/\bU (l.take (k+1)) 1=n1/\bU (l.take (k+1)) 2=n2/\bU (l.take (k+1)) 3=A):=⟨by rw[e0];simp,by rw[U];simp,by rw[T];simp,by rw[S];simp⟩;clear e0 U T S q0 q1 q2 s0 s1 s2 s3 fj;go_wp2_with fail;go_roundw
    case rel=>
     refine⟨k+1,by omega,by go_num,?_,Q⟩;rw[F.out.1,F.out.2.1,F.out.2.2.1,F.out.2.2.2];exact Y
    case measure=>simp[intOf];omega
   ·have iw:P7.wrap (n1+D)=n1+D:=by rw[P6];omega
    have fj:=bs.free 1
    go_region
    have Y:=(bs.set 1 (.int .i64 (n1+D))).drew;have Q:P5 w1.heap.size w1 (wx.setCell ⟨w1.heap.size,1,none⟩ (.int .i64 (n1+D))).drew:=(y3.setCell (by simp) _).drew;generalize (wx.setCell ⟨w1.heap.size,1,none⟩ (.int .i64 (n1+D))).drew=w7 at*;obtain⟨e0,U,T,S⟩:=N.out;have F:Hid (bU (l.take (k+1)) 0=n0/\bU (l.take (k+1)) 1=n1+D/\bU (l.take (k+1)) 2=n2/\bU (l.take (k+1)) 3=A):=⟨by rw[e0];simp,by rw[U];simp,by rw[T];simp,by rw[S];simp⟩;clear e0 U T S q0 q1 q2 s0 s1 s2 s3 fj;go_wp2_with fail;go_roundw
    case rel=>
     refine⟨k+1,by omega,by go_num,?_,Q⟩;rw[F.out.1,F.out.2.1,F.out.2.2.1,F.out.2.2.2];exact Y
    case measure=>simp[intOf];omega
   ·have iw:P7.wrap (n2+D)=n2+D:=by rw[P6];omega
    have fj:=bs.free 2
    go_region
    have Y:=(bs.set 2 (.int .i64 (n2+D))).drew;have Q:P5 w1.heap.size w1 (wx.setCell ⟨w1.heap.size,2,none⟩ (.int .i64 (n2+D))).drew:=(y3.setCell (by simp) _).drew;generalize (wx.setCell ⟨w1.heap.size,2,none⟩ (.int .i64 (n2+D))).drew=w7 at*;obtain⟨e0,U,T,S⟩:=N.out;have F:Hid (bU (l.take (k+1)) 0=n0/\bU (l.take (k+1)) 1=n1/\bU (l.take (k+1)) 2=n2+D/\bU (l.take (k+1)) 3=A):=⟨by rw[e0];simp,by rw[U];simp,by rw[T];simp,by rw[S];simp⟩;clear e0 U T S q0 q1 q2 s0 s1 s2 s3 fj;go_wp2_with fail;go_roundw
    case rel=>
     refine⟨k+1,by omega,by go_num,?_,Q⟩;rw[F.out.1,F.out.2.1,F.out.2.2.1,F.out.2.2.2];exact Y
    case measure=>simp[intOf];omega
   ·have iw:P7.wrap (A+D)=A+D:=by rw[P6];omega
    have fj:=bs.free 3
    go_region
    have Y:=(bs.set 3 (.int .i64 (A+D))).drew;have Q:P5 w1.heap.size w1 (wx.setCell ⟨w1.heap.size,3,none⟩ (.int .i64 (A+D))).drew:=(y3.setCell (by simp) _).drew;generalize (wx.setCell ⟨w1.heap.size,3,none⟩ (.int .i64 (A+D))).drew=w7 at*;obtain⟨e0,U,T,S⟩:=N.out;have F:Hid (bU (l.take (k+1)) 0=n0/\bU (l.take (k+1)) 1=n1/\bU (l.take (k+1)) 2=n2/\bU (l.take (k+1)) 3=A+D):=⟨by rw[e0];simp,by rw[U];simp,by rw[T];simp,by rw[S];simp⟩;clear e0 U T S q0 q1 q2 s0 s1 s2 s3 fj;go_wp2_with fail;go_roundw
    case rel=>
     refine⟨k+1,by omega,by go_num,?_,Q⟩;rw[F.out.1,F.out.2.1,F.out.2.2.1,F.out.2.2.2];exact Y
    case measure=>simp[intOf];omega
  ·obtain rfl:k=l.length:=by omega
   rw[gY]at x0 m0 v1 m1 v0 m2 u8 m3 u4;obtain⟨s0,s1,s2,s3⟩:=x0.dp;have N:Hid (kC l 0=(if bU l 0=0 then [] else [((0,bU l 0%100),1)])/\kC l 1=(if bU l 1=0 then [] else [((1,bU l 1%100),1)])/\kC l 2=(if bU l 2=0 then [] else [((2,bU l 2%100),1)])/\kC l 3=(if bU l 3=0 then [] else [((3,bU l 3%100),1)])):=⟨rfl,rfl,rfl,rfl⟩;have z3:=aH x6 hb;have v2:=z3.size;clear x0 HC HP HN;generalize bU l 0=n0 at*;generalize bU l 1=n1 at*;generalize bU l 2=n2 at*;generalize bU l 3=A at*;have HL:Hid (∀k:Nat,(dQ (kC l) k).length<=k*1):=K0 (fun k=>nP l k);have HZ:Hid (dQ (kC l) 1=dQ (kC l) 0++kC l 0/\dQ (kC l) 2=dQ (kC l) 1++kC l 1/\dQ (kC l) 3=dQ (kC l) 2++kC l 2/\dQ (kC l) 4=dQ (kC l) 3++kC l 3):=⟨rfl,rfl,rfl,rfl⟩;obtain⟨W,hW⟩:∃W,W=wr:=⟨_,rfl⟩;subst hW;go_wp2_with fail
   go_loopw [6,28] (fun o i wz=>∃k:Nat,k<=4/\i=.int .i64 k/\bZ wz W.heap.size o (dQ (kC l) k)/\P5 W.heap.size W wz) (fun _ i _=>4-(intOf i).toNat)
   case atStart=>exact⟨0,by omega,rfl,oN _ _ _ _ _,P8 _ _⟩
   case round=>
    clear s0 s1 s2 s3;obtain⟨k,a5,rfl,y6,I⟩:=hrel;have HO:Hid (bZ wr W.heap.size u6 (dQ (kC l) k)):=y6;have h1:=HL.out k;have a0:=I.size;clear y6
    by_cases z2:k<4
    ·obtain rfl|rfl|rfl|rfl:k=0\/k=1\/k=2\/k=3:=by omega
     ·by_cases L:n0=0
      ·subst L;have ix:=Jc 0 n1 n2 A;have M:Hid (dQ (kC l) (0+1)=dQ (kC l) 0):=by show _=_;rw[HZ.out.1,N.out.1,if_pos rfl,lY]
       generalize dQ (kC l) 0=LL at*;go_wp2_with fail;go_roundw
       case rel=>exact⟨0+1,by omega,by go_num,by rw[M.out];exact HO.out,I⟩
       case measure=>simp[intOf]
      ·have nz:(n0==0)=false:=by simpa using L
       have ix:=Jc n0 n1 n2 A;have M:Hid (dQ (kC l) (0+1)=dQ (kC l) 0++[((0,n0%100),1)]):=by show _=_;rw[HZ.out.1,N.out.1,if_neg L]
       go_wp2_with fail;refine (nM n0 _).mono ?_;rintro e w8 ⟨rfl,H⟩;have G:=aH I H;have y5:=G.size;have Z:bZ w8 W.heap.size u6 (dQ (kC l) 0):=bJ HO.out H;generalize dQ (kC l) 0=LL at*
       go_wp2_with (at_builtin;refine vB _ rfl _ _ rfl W.heap.size _ LL rfl (Z.alloc _) _ 0 (n0%100) 1 rfl (Bk.new _ _ rfl) (by omega) (by simp;omega) ?_;intro g9 y2 w9 J B y7)
       have O:P5 W.heap.size W w9:=Below.aO (aG G _) B (by simp;omega) (oB Z);exact⟨⟨0+1,by omega,by go_num,by rw[M.out];exact J,O⟩,by simp[intOf]⟩
     ·by_cases L:n1=0
      ·subst L;have ix:=Ja n0 0 n2 A;have M:Hid (dQ (kC l) (1+1)=dQ (kC l) 1):=by show _=_;rw[HZ.out.2.1,N.out.2.1,if_pos rfl,lY]
       generalize dQ (kC l) 1=LL at*;go_wp2_with fail;go_roundw
       case rel=>exact⟨1+1,by omega,by go_num,by rw[M.out];exact HO.out,I⟩
       case measure=>simp[intOf]
      ·have nz:(n1==0)=false:=by simpa using L
       have ix:=Ja n0 n1 n2 A;have M:Hid (dQ (kC l) (1+1)=dQ (kC l) 1++[((1,n1%100),1)]):=by show _=_;rw[HZ.out.2.1,N.out.2.1,if_neg L]
       go_wp2_with fail;refine (nM n1 _).mono ?_;rintro e w8 ⟨rfl,H⟩;have G:=aH I H;have y5:=G.size;have Z:bZ w8 W.heap.size u6 (dQ (kC l) 1):=bJ HO.out H;generalize dQ (kC l) 1=LL at*
       go_wp2_with (at_builtin;refine vB _ rfl _ _ rfl W.heap.size _ LL rfl (Z.alloc _) _ 1 (n1%100) 1 rfl (Bk.new _ _ rfl) (by omega) (by simp;omega) ?_;intro g9 y2 w9 J B y7)
       have O:P5 W.heap.size W w9:=Below.aO (aG G _) B (by simp;omega) (oB Z);exact⟨⟨1+1,by omega,by go_num,by rw[M.out];exact J,O⟩,by simp[intOf]⟩
     ·by_cases L:n2=0
      ·subst L;have ix:=J5 n0 n1 0 A;have M:Hid (dQ (kC l) (2+1)=dQ (kC l) 2):=by show _=_;rw[HZ.out.2.2.1,N.out.2.2.1,if_pos rfl,lY]
       generalize dQ (kC l) 2=LL at*;go_wp2_with fail;go_roundw
       case rel=>exact⟨2+1,by omega,by go_num,by rw[M.out];exact HO.out,I⟩
       case measure=>simp[intOf]
      ·have nz:(n2==0)=false:=by simpa using L
       have ix:=J5 n0 n1 n2 A;have M:Hid (dQ (kC l) (2+1)=dQ (kC l) 2++[((2,n2%100),1)]):=by show _=_;rw[HZ.out.2.2.1,N.out.2.2.1,if_neg L]
       go_wp2_with fail;refine (nM n2 _).mono ?_;rintro e w8 ⟨rfl,H⟩;have G:=aH I H;have y5:=G.size;have Z:bZ w8 W.heap.size u6 (dQ (kC l) 2):=bJ HO.out H;generalize dQ (kC l) 2=LL at*
       go_wp2_with (at_builtin;refine vB _ rfl _ _ rfl W.heap.size _ LL rfl (Z.alloc _) _ 2 (n2%100) 1 rfl (Bk.new _ _ rfl) (by omega) (by simp;omega) ?_;intro g9 y2 w9 J B y7)
       have O:P5 W.heap.size W w9:=Below.aO (aG G _) B (by simp;omega) (oB Z);exact⟨⟨2+1,by omega,by go_num,by rw[M.out];exact J,O⟩,by simp[intOf]⟩
     ·by_cases L:A=0
      ·subst L;have ix:=Jj n0 n1 n2 0;have M:Hid (dQ (kC l) (3+1)=dQ (kC l) 3):=by show _=_;rw[HZ.out.2.2.2,N.out.2.2.2,if_pos rfl,lY]
       generalize dQ (kC l) 3=LL at*;go_wp2_with fail;go_roundw
       case rel=>exact⟨3+1,by omega,by go_num,by rw[M.out];exact HO.out,I⟩
       case measure=>simp[intOf]
      ·have nz:(A==0)=false:=by simpa using L
       have ix:=Jj n0 n1 n2 A;have M:Hid (dQ (kC l) (3+1)=dQ (kC l) 3++[((3,A%100),1)]):=by show _=_;rw[HZ.out.2.2.2,N.out.2.2.2,if_neg L]
       go_wp2_with fail;refine (nM A _).mono ?_;rintro e w8 ⟨rfl,H⟩;have G:=aH I H;have y5:=G.size;have Z:bZ w8 W.heap.size u6 (dQ (kC l) 3):=bJ HO.out H;generalize dQ (kC l) 3=LL at*
       go_wp2_with (at_builtin;refine vB _ rfl _ _ rfl W.heap.size _ LL rfl (Z.alloc _) _ 3 (A%100) 1 rfl (Bk.new _ _ rfl) (by omega) (by simp;omega) ?_;intro g9 y2 w9 J B y7)
       have O:P5 W.heap.size W w9:=Below.aO (aG G _) B (by simp;omega) (oB Z);exact⟨⟨3+1,by omega,by go_num,by rw[M.out];exact J,O⟩,by simp[intOf]⟩
    ·obtain rfl:k=4:=by omega
     go_wp2_with fail;go_ret;refine⟨_,rfl,?_,aH z3 I⟩;rw[HF.out];exact bQ HO.out v2
end Go.Proofs.YtbdpcngcbnoioaaGreatDoor
