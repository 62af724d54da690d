import Derived.Test.YtbdpcngcbnoioaaGreatDoorGa8
import Derived.Test.YtbdpcngcbnoioaaGreatDoorGs2
import Derived.Test.YtbdpcngcbnoioaaGreatDoorGd1
set_option maxRecDepth 100000
set_option maxHeartbeats 8000000
namespace Go.Proofs.YtbdpcngcbnoioaaGreatDoor
open Go.RowKit
open _root_.List renaming getElem_of_mem->fM,mem_range->fQ,mem_filter->gD,getElem_mem->gM,mem_append_left->gQ,mem_append->gX,perm_ext_iff_of_nodup->iM,pairwise_iff_getElem->iP,getElem?_eq_none->jB,mem_cons->jO
open Go.Proofs.Tryz renaming prog->mO,ntmps17->nA,func17->nB
open Go.RowKit renaming Below->nT
open Go renaming Value->nX,Calls->oU,World->oW
open _root_.Nat renaming mul_le_mul->pU,succ_mul->qV,mul_comm->sD
variable {f g l:LI}{k n:Nat}{p:Int×Int}{v:nX}{w:oW}{x y:Int}
abbrev Ks (p:Int×Int):Bool:=bM p.1 p.2
abbrev qE (p q:Int×Int):Bool:=cX p.1 p.2 q.1 q.2
theorem FA {q:Int×Int}(h:qE p q=true)(a:qE q p=true):p=q:=by
 obtain⟨h1,h2⟩:=Mi h a;exact Prod.ext h1 h2
theorem wU (h:Ks p=true):qE p p=true:=by unfold qE;rw[F9];exact h
theorem lO :iN l x y=true↔∃p∈l,cX p.1 p.2 x y=true:=by
 constructor
 ·intro h;obtain⟨k,s,a⟩:=Jc h;refine⟨l[k],gM s,?_⟩
  simpa[tA,tB,s]using a
 ·rintro⟨p,hp,a⟩;obtain⟨k,s,rfl⟩:=fM hp;exact vX s (by simpa[tA,tB,s]using a)
structure uT (acc P:LI):Prop where
 sub:∀p∈acc,p∈P
 anti:∀p∈acc,∀q∈acc,qE p q=true->p=q
 nodup:acc.Nodup
 cov:∀q∈P,∃p∈acc,qE p q=true
theorem uT.step {acc P:LI}{x:Int×Int}(h:uT acc P)(hx:Ks x=true):uT (wG acc x) (P++[x]):=by
 unfold wG
 split
 ·rename_i ha;obtain⟨p,hp,s⟩:=lO.1 ha;refine⟨fun p hp=>gQ _ (h.sub p hp),h.anti,h.nodup,fun q hq=>?_⟩
  rcases gX.1 hq with hq|hq
  ·exact h.cov q hq
  ·obtain rfl:q=x:=by simpa using hq
   exact⟨p,hp,s⟩
 ·rename_i ha;have B:∀p∈acc,qE p x=false:=fun p hp=>by
   cases e:qE p x
   ·rfl
   ·exact absurd (lO.2 ⟨p,hp,e⟩) ha
  have A:∀p,p∈acc.filter (J7 x.1 x.2)++[x]->(p∈acc/\qE x p=false)\/p=x:=fun p hp=>by
   rcases gX.1 hp with hp|hp
   ·obtain⟨h1,h2⟩:=gD.1 hp;refine .inl ⟨h1,?_⟩
    simpa[J7]using h2
   ·exact .inr (by simpa using hp)
  refine⟨fun p hp=>?_,fun p hp q hq s=>?_,?_,fun q hq=>?_⟩
  ·rcases A p hp with⟨h1,_⟩|rfl
   ·exact gQ _ (h.sub p h1)
   ·simp
  ·rcases A p hp with⟨h1,h2⟩|rfl<;>rcases A q hq with⟨h3,h4⟩|rfl
   ·exact h.anti p h1 q h3 s
   ·rw[B p h1]at s;cases s
   ·rw[h4]at s;cases s
   ·rfl
  ·rw[List.nodup_append];refine⟨h.nodup.filter _,by simp,fun a ha b D=>?_⟩;obtain rfl:b=x:=by simpa using D
   rintro rfl;have:=B a (gD.1 ha).1;rw[wU hx]at this;cases this
  ·rcases gX.1 hq with hq|hq
   ·obtain⟨p,hp,s⟩:=h.cov q hq;cases e:qE x p
    ·exact⟨p,gQ _ (gD.2 ⟨hp,by simp[J7];exact e⟩),s⟩
    ·exact⟨x,by simp,r9 e s⟩
   ·obtain rfl:q=x:=by simpa using hq
    exact⟨q,by simp,wU hx⟩
theorem uT.fold {xs:LI}:∀{acc P:LI},uT acc P->(∀p∈xs,Ks p=true)->uT (xs.foldl wG acc) (P++xs):=by
 induction xs with
 | nil=>intro acc P h _;simpa using h
 | cons x xs ih=>
  intro acc P h hx;have h1:=h.step (hx x (by simp));have h2:=ih h1 (fun p hp=>hx p (by simp[hp]))
  simpa using h2
theorem sE (h:lP l=true):∀p∈l,Ks p=true:=by
 intro p hp;obtain⟨k,a,rfl⟩:=fM hp;unfold lP at h;rw[List.all_eq_true]at h;have:=h k (by simpa using a)
 simpa[tA,tB,a]using this
theorem yD (h:lP l=true):uT (El l l.length) l:=by
 unfold El;rw[List.take_length];have:=uT.fold (xs:=l) (acc:=[]) (P:=[]) ⟨by simp,by simp,by simp,by simp⟩ (sE h)
 simpa using this
theorem uT.iff {acc P:LI}(h:uT acc P)(p:Int×Int):p∈acc↔p∈P/\∀q∈P,qE q p=true->q=p:=by
 constructor
 ·intro hp;refine⟨h.sub p hp,fun q hq s=>?_⟩;obtain⟨r,hr,a⟩:=h.cov q hq;obtain rfl:=h.anti r hr p hp (r9 a s);exact FA s a
 ·rintro⟨hp,A⟩;obtain⟨r,hr,B⟩:=h.cov p hp;rw[<- A r (h.sub r hr) B];exact hr
theorem uD {a b:Int}:mX l a b=true↔(a,b)∈l/\∀q∈l,qE q (a,b)=true->q=(a,b):=by
 have e:∀i,(hi:i<l.length)->By l a b i=decide (l[i]=(a,b)):=fun i hi=>by
  unfold By;simp[tA,tB,hi,Prod.ext_iff]
 have B:∀i,(hi:i<l.length)->cX (tA l i) (tB l i) a b=qE l[i] (a,b):=fun i hi=>by simp[tA,tB,hi]
 unfold mX uE qR;rw[Bool.and_eq_true,List.any_eq_true,Bool.not_eq_true',List.any_eq_false];constructor
 ·rintro⟨⟨i,hi,h1⟩,h2⟩;rw[fQ]at hi;rw[e i hi]at h1;refine⟨by have:=gM hi;rw[of_decide_eq_true h1]at this;exact this,fun q hq A=>?_⟩;obtain⟨j,s,rfl⟩:=fM hq;have:=h2 j (fQ.2 s);unfold BQ at this;rw[e j s,B j s,A]at this
  simpa using this
 ·rintro⟨h1,h2⟩;obtain⟨i,hi,h3⟩:=fM h1;refine⟨⟨i,fQ.2 hi,by rw[e i hi];simpa using h3⟩,fun j s=>?_⟩;rw[fQ]at s;unfold BQ;rw[e j s,B j s];have:=h2 l[j] (gM s);cases A:qE l[j] (a,b)
  ·simp
  ·simp[this A]
theorem qY (h:lP l=true)(p:Int×Int):p∈dR l↔p∈l/\∀q∈l,qE q p=true->q=p:=by
 unfold dR;rw[if_pos h];unfold mH;rw[List.mem_map];constructor
 ·rintro⟨i,hi,rfl⟩;exact uD.1 (gD.1 hi).2
 ·rintro⟨h1,h2⟩;have ho:=fH.1 (sE h p h1);have s:gA (p.1.toNat*8+(7-p.2).toNat)=p.1:=by unfold gA;omega
  have a:gB (p.1.toNat*8+(7-p.2).toNat)=p.2:=by unfold gB;omega
  refine⟨p.1.toNat*8+(7-p.2).toNat,gD.2 ⟨fQ.2 (by omega),?_⟩,by rw[s,a]⟩;rw[s,a];exact uD.2 ⟨h1,h2⟩
theorem AV (l:LI):(dR l).Pairwise fun p q=>p.1<q.1:=by
 unfold dR
 split
 ·rename_i h;unfold mH;rw[List.pairwise_map,List.pairwise_filter];refine List.Pairwise.imp_of_mem ?_ (List.pairwise_lt_range (n:=64));intro i j hi B D h1 h2;rw[fQ]at hi B;have G:gA i<=gA j:=by unfold gA;omega
  have a:gA i=gA j->gB j<gB i:=by unfold gA gB;omega
  by_cases e:gA i=gA j
  ·have h3:=uD.1 h1;have h4:=uD.1 h2;have A:=sE h _ h3.1;have s:=sE h _ h4.1;have:=h3.2 _ h4.1 (gY.2 ⟨s,A,by simp;omega,by have:=a e;simp;omega⟩);rw[Prod.ext_iff]at this;have:=a e;simp at*;omega
  ·omega
 ·simp
theorem Ap (h:l.Pairwise fun p q=>p.1<q.1):l.Nodup:=h.imp fun {p q} a e=>by subst e;omega
theorem Qo (h:l.Pairwise fun p q=>p.1<q.1):∀p∈l,∀q∈l,p.1=q.1->p=q:=by
 induction h with
 | nil=>simp
 | cons hd _ ih=>
  intro p hp q hq e
  rcases jO.1 hp with rfl|s<;>rcases jO.1 hq with rfl|a
  ·rfl
  ·have:=hd q a;omega
  ·have:=hd p s;omega
  ·exact ih p s q a e
theorem Qp (h:l.Pairwise fun p q=>p.1<q.1):∀s:Nat,(∀p∈l,(s:Int)<=p.1/\p.1<=7)->l.length<=8-s:=by
 induction h with
 | nil=>simp
 | cons hd _ ih=>
  rename_i a l _;intro s A;obtain⟨h1,h2⟩:=A a (by simp);have:=ih (s+1) (fun p hp=>by have:=hd p hp;have:=A p (by simp[hp]);omega);simp;omega
theorem wI :∀p∈dR l,Ks p=true:=by
 intro p hp;cases h:lP l
 ·unfold dR at hp;rw[h]at hp;simp at hp
 ·exact sE h p ((qY h p).1 hp).1
theorem Ia (l:LI):(dR l).length<=8:=
 Qp (AV l) 0 fun p hp=>by have:=fH.1 (wI p hp);omega
theorem K4 (h:lP l=true):(El l l.length).Perm (dR l):=
 (iM (yD h).nodup (Ap (AV l))).2 fun p=>((yD h).iff p).trans (qY h p).symm
theorem EU (a:k<l.length):(tA l k,tB l k)∈l:=by
 have e:l[k]=(tA l k,tB l k):=by simp[tA,tB,a]
 rw[<- e];exact gM a
theorem Ko (h:p∈l):∃k,k<l.length/\p=(tA l k,tB l k):=by
 obtain⟨k,a,rfl⟩:=fM h;exact⟨k,a,by simp[tA,tB,a]⟩
theorem Hh (h:dA l=true):lP l=true:=EM fun _ a=>KC h a
theorem C3 (h:dA l=true)(i:Nat):∀d,i+d+1<l.length->tA l i<tA l (i+d+1)/\tB l (i+d+1)<tB l i:=by
 intro d
 induction d with
 | zero=>
  intro hd;have:=Eo h hd;simp[fR]at this;exact⟨this.2.1,this.2.2⟩
 | succ d ih=>
  intro hd;have h1:=ih (by omega);have h2:=Eo h hd;simp[fR]at h2;have e:i+(d+1)=i+d+1:=by omega
  rw[e]at h2 ⊢;omega
theorem KD (h:dA l=true):l.Pairwise fun p q=>p.1<q.1:=by
 rw[iP];intro i j hi a s;have:=(C3 h i (j-i-1) (by omega)).1;rw[show i+(j-i-1)+1=j by omega]at this
 simpa[tA,hi,a]using this
theorem MR (h:dA l=true):∀p∈l,∀q∈l,qE p q=true->p=q:=by
 intro p hp q hq a;obtain⟨i,hi,rfl⟩:=Ko hp;obtain⟨j,A,rfl⟩:=Ko hq;have h1:=gY.1 a;simp only at h1
 rcases Nat.lt_trichotomy i j with s|rfl|s
 ·have:=C3 h i (j-i-1) (by omega);rw[show i+(j-i-1)+1=j by omega]at this;omega
 ·rfl
 ·have:=C3 h j (i-j-1) (by omega);rw[show j+(i-j-1)+1=i by omega]at this;omega
theorem Ib (h:lP l=false):dR l=[]:=by unfold dR;rw[h];rfl
theorem DG (l:LI):dA (dR l)=true:=by
 cases h:lP l
 ·rw[Ib h];rfl
 ·refine AU fun j a=>?_;have ho:=wI _ (EU a);unfold fR;rw[show bM (tA (dR l) j) (tB (dR l) j)=true from ho,Bool.true_and]
  rcases j with _|m
  ·simp
  ·have hm:m<(dR l).length:=by omega
   have h1:=iP.1 (AV l) m (m+1) hm a (by omega);have A:=EU hm;have s:=EU a;have h2:tA (dR l) m<tA (dR l) (m+1):=by simpa[tA,hm,a]using h1
   have h3:tB (dR l) (m+1)<tB (dR l) m:=by
    rcases Int.lt_or_le (tB (dR l) (m+1)) (tB (dR l) m) with h3|h3
    ·exact h3
    ·have:=((qY h _).1 s).2 _ ((qY h _).1 A).1 (gY.2 ⟨wI _ A,wI _ s,by simp;omega,by simp;omega⟩);rw[Prod.ext_iff]at this;simp at this;omega
   simp[h2,h3]
theorem KF (h:lP l=true):∀q∈l,∃p∈dR l,qE p q=true:=by
 intro q hq;obtain⟨p,hp,a⟩:=(yD h).cov q hq;exact⟨p,(K4 h).mem_iff.1 hp,a⟩
theorem KE (h:lP l=true)(X Y:Int):iN (dR l) X Y=iN l X Y:=by
 rw[Bool.eq_iff_iff];constructor
 ·intro h1;obtain⟨p,hp,a⟩:=lO.1 h1;exact lO.2 ⟨p,((qY h p).1 hp).1,a⟩
 ·intro h1;obtain⟨q,hq,a⟩:=lO.1 h1;obtain⟨p,hp,s⟩:=KF h q hq;exact lO.2 ⟨p,hp,r9 s a⟩
theorem Hi (hf:dA f=true)(h:∀X Y,iN f X Y=iN g X Y):∀p∈f,p∈g:=by
 intro p hp;have ho:=sE (Hh hf) p hp;have h1:iN g p.1 p.2=true:=by rw[<- h];exact lO.2 ⟨p,hp,wU ho⟩
 obtain⟨q,hq,a⟩:=lO.1 h1;have A:qE q q=true:=wU (gY.1 a).1;have h2:iN f q.1 q.2=true:=by rw[h];exact lO.2 ⟨q,hq,A⟩
 obtain⟨r,hr,s⟩:=lO.1 h2;obtain rfl:=MR hf r hr p hp (r9 s a);rw[FA s a];exact hq
theorem RH (hf:f.Pairwise fun p q=>p.1<q.1)(hg:g.Pairwise fun p q=>p.1<q.1)(h:∀p,p∈f↔p∈g):f=g:=by
 have hp:f.Perm g:=(iM (Ap hf) (Ap hg)).2 h;refine List.Perm.eq_of_pairwise (le:=fun p q=>p.1<=q.1) ?_ (hf.imp fun {p q} h=>Int.le_of_lt h) (hg.imp fun {p q} h=>Int.le_of_lt h) hp;intro p q s a h1 h2;exact Qo hg p ((h p).1 s) q a (by omega)
theorem Pu (hf:dA f=true)(hg:dA g=true)(h:∀X Y,iN f X Y=iN g X Y):f=g:=
 RH (KD hf) (KD hg) fun p=>⟨Hi hf h p,Hi hg (fun X Y=>(h X Y).symm) p⟩
theorem Ic (hf:dA f=true):dR f=f:=
 Pu (DG f) hf fun X Y=>KE (Hh hf) X Y
theorem oS (hf:dA f=true):f.length<=8:=by
 have:=Ia f;rw[Ic hf]at this;exact this
def RP (f g:LI)(n i:Nat):Int×Int:=(k9 (tA f (i / n)) (tB f (i / n)) (tA g (i%n)) (tB g (i%n)),kA (tA f (i / n)) (tB f (i / n)) (tA g (i%n)) (tB g (i%n)))
def mE (f g:LI)(n m:Nat):LI:=(List.range m).map (RP f g n)
def BI (f g:LI):LI:=mE f g g.length (f.length*g.length)
theorem A5 (f g:LI)(n m:Nat):(mE f g n m).length=m:=by simp[mE]
theorem F0 (f g:LI){j:Nat}(a:j<n):mE f g n (k*n+(j+1))=mE f g n (k*n+j)++[(k9 (tA f k) (tB f k) (tA g j) (tB g j),kA (tA f k) (tB f k) (tA g j) (tB g j))]:=by
 have A:(k*n+j) / n=k:=by
  rw[sD,Nat.mul_add_div (by omega),Nat.div_eq_of_lt a,Nat.add_zero]
 have s:(k*n+j)%n=j:=by
  rw[sD,Nat.mul_add_mod,Nat.mod_eq_of_lt a]
 unfold mE;rw[<- Nat.add_assoc,List.range_succ,List.map_append,List.map_cons,List.map_nil];unfold RP;rw[A,s]
def nE (f g:LI):LI:=if dA f&&dA g then dR (BI f g) else []
theorem MG (hf:dA f=true)(hg:dA g=true):nE f g=dR (BI f g):=by unfold nE;rw[hf,hg];rfl
theorem ME (hf:dA f=false):nE f g=[]:=by unfold nE;rw[hf];rfl
theorem MF (hg:dA g=false):nE f g=[]:=by unfold nE;rw[hg,Bool.and_false];rfl
theorem Eb (f g:LI):dA (nE f g)=true:=by
 unfold nE;split
 ·exact DG _
 ·rfl
theorem MD (f g:LI):(nE f g).length<=8:=oS (Eb f g)
theorem vK {r:Bool}(h:dA l=r)(a:Ts w v l):oU mO 80 #[v] w fun e w'=>e=.returned (.bool r)/\nT w.heap.size w w':=by
 rw[<- h];exact tX v l w a
theorem KW {m j:Nat}(hn:n<=8)(hm:m<=8)(a:k<m)(s:j<n):k*n+j<64:=by
 have h1:(k+1)*n<=8*8:=pU (by omega) hn;rw[qV]at h1;omega
theorem yY (v v':nX)(f g:LI)(w:oW)(h:Ts w v f)(h':Ts w v' g):
  oU mO 63 #[v,v'] w fun e w'=>∃o:nX,e=.returned o/\bW w' w.heap.size o (nE f g)/\nT w.heap.size w w':=by
 obtain⟨i0,hi,v0,z9,z8⟩:=info_parts rV;have I:nT w.heap.size w (w.alloc (.cells #[] 32)):=aH (nT.refl _ _) _;have o0:=kZ w 32 2;have S:=h.keep I;have x6:=h'.keep I;go_enter Tryz.func63,Tryz.ntmps63;go_wp2_with fail;generalize (w.alloc (.cells #[] 32))=W at*;cases hf:dA f
 ·have HK:Hid (nE f g=[]):=ME hf;refine (sQ hf S).mono ?_;rintro e w1 ⟨rfl,A⟩;have D:=aG I A;have T:=cC o0 A;clear o0 I A;go_wp2_with fail;go_ret;refine⟨_,rfl,?_,D⟩;rw[HK.out];exact T
 refine (sQ hf S).mono ?_;rintro e w1 ⟨rfl,A⟩;have D:=aG I A;have T:=cC o0 A;have z4:=S.keep A;have U:=x6.keep A;clear o0 I A S x6;cases hg:dA g
 ·have HK:Hid (nE f g=[]):=MF hg;go_wp2_with fail;refine (sQ hg U).mono ?_;rintro e w2 ⟨rfl,G⟩;have Q:=aG D G;have o2:=cC T G;clear T D G;go_wp2_with fail;go_ret;refine⟨_,rfl,?_,Q⟩;rw[HK.out];exact o2
 have HK:Hid (nE f g=dR (BI f g)):=MG hf hg;have HJ:Hid (BI f g=mE f g g.length (f.length*g.length)):=rfl;have y1:=oS hf;have y0:=oS hg;go_wp2_with fail;refine (sQ hg U).mono ?_;rintro e w2 ⟨rfl,G⟩;have Q:=aG D G;have o2:=cC T G;clear T D G z4 U hf hg;obtain⟨a,b1,rfl,hc,hm,hn,M⟩:=h;obtain⟨a',w7,rfl,a9,v1,a5,H⟩:=h';unfold maxLen at hm v1;have HC:=(show Hid _ from M);have v6:=(show Hid _ from H);clear M H;generalize f.length=Z at*;generalize g.length=B at*;go_wp2_with fail
 go_loopw [5,6] (fun o i wr=>∃k:Nat,k<=Z/\i=.int .i64 k/\bW wr w.heap.size o (mE f g B (k*B))/\nT w.heap.size w wr) (fun _ i _=>Z-(intOf i).toNat)
 case atStart=>exact⟨0,by omega,rfl,by rw[Nat.zero_mul];exact o2,Q⟩
 case round=>
  clear o2;obtain⟨k,hk,rfl,s,R⟩:=hrel;have O:=(show Hid _ from s);clear s
  by_cases x9:k<Z
  ·have a2:((k:Int)<(Z:Int)):=by omega
   go_wp2_with fail
   go_loopw [5,7] (fun o i wq=>∃j:Nat,j<=B/\i=.int .i64 j/\bW wq w.heap.size o (mE f g B (k*B+j))/\nT w.heap.size w wq) (fun _ i _=>B-(intOf i).toNat)
   case atStart=>exact⟨0,by omega,rfl,O.out,R⟩
   case round=>
    clear O R;obtain⟨j,hj,rfl,s,R⟩:=hrel
    by_cases h9:j<B
    ·obtain⟨gf,off,rfl,a8,c0,c1⟩:=HC.out k x9;obtain⟨gg,J,rfl,a7,p0,p1⟩:=v6.out j h9;have y4:Hid (∀w':oW,nT w.heap.size w w'->w'.cell? ⟨gf,off+k*2,none⟩=some (.int .i64 (tA f k))/\w'.cell? ⟨gf,off+k*2+1,none⟩=some (.int .i64 (tB f k))/\w'.cell? ⟨gg,J+j*2,none⟩=some (.int .i64 (tA g j))/\w'.cell? ⟨gg,J+j*2+1,none⟩=some (.int .i64 (tB g j))):=fun w' h=>⟨cB h c0,cB h c1,cB h p0,cB h p1⟩;have HS:=(show Hid _ from F0 f g (k:=k) h9);have w5:=KW y0 y1 x9 h9;have y7:=A5 f g B (k*B+j);clear c0 c1 p0 p1;generalize tA f k=X at*;generalize tB f k=Y at*;generalize tA g j=X' at *;generalize tB g j=Y' at *;generalize k*B+j=kj at*;generalize mE f g B kj=L at*;have a3:((j:Int)<(B:Int)):=by omega
     have O:Hid (bW wr.drew w.heap.size u5 L):=s;have b0:nT w.heap.size w wr.drew:=R.drew;have hL:L.length<=64:=by omega
     clear s y7;go_wp2_with fail
     go_region_held3 (fun w'=>w'.cell? ⟨gf,off+k*2,none⟩=some (.int .i64 X)/\w'.cell? ⟨gf,off+k*2+1,none⟩=some (.int .i64 Y)/\w'.cell? ⟨gg,J+j*2,none⟩=some (.int .i64 X')/\w'.cell? ⟨gg,J+j*2+1,none⟩=some (.int .i64 Y'))
      (first|exact y4.out _ (by with_reducible assumption)|exact y4.out _ (aH (by with_reducible assumption) _))
      (first
       | (go_at_call 130;refine (n7 _ _ _ _ _).mono ?_;rintro e wj ⟨rfl,y3⟩;have y2:nT w.heap.size w wj:=aG (by with_reducible assumption) y3;have x8:=cC O.out y3;have a4:=y2.size)
       | (refine step_append_lies _ (by rfl) _ _ _ (by rfl) w.heap.size 32 i0 _ 2 16 Tryz.underlying27 hi v0 z9 z8 rfl (by omega) u5 L.length (jR L) (by rfl) (x8.alloc _) ⟨wj.heap.size,0,none⟩ 1 1 [.int .i64 (k9 X Y X' Y'),.int .i64 (kA X Y X' Y')] (by rfl) (by rfl) (BU _ _ _ _) (rY _ _) (by omega) (by unfold maxLen;omega) (by omega) (by simp;omega) (wj.heap.size+1) (by simp) ?_;intro g3 w6 w3 x3 x4 hat a6;have v3:nT w.heap.size w w3:=(aH y2 _).grown x4 (by simp;omega) (kK x8)))
     go_wp2_with fail;go_roundw
     case rel=>
      refine⟨j+1,by omega,by go_num,?_,v3⟩;rw[HS.out]
      show w3.ownsRow _ _ _ _ _ _
      rw[mC];simpa using x3
     case measure=>simp[intOf];omega
    ·obtain rfl:j=B:=by omega
     have O:=(show Hid _ from s);clear s;go_wp2_with fail;go_roundw
     case rel=>exact⟨k+1,by omega,by go_num,by rw[qV];exact O.out,R⟩
     case measure=>simp[intOf];omega
  ·obtain rfl:k=Z:=by omega
   have x7:=bW.ts O.out (by rw[A5];have:=pU hk y0;have:=pU y1 (Nat.le_refl 8);omega);rw[<- HJ.out]at x7;have y6:=R.size;clear O;go_wp2_with fail;refine (uK _ _ _ x7).mono ?_;rintro e w4 ⟨o4,rfl,V,v2⟩;have O4:=(show Hid _ from V);clear V;go_wp2_with fail;go_ret;refine⟨_,rfl,?_,aG R v2⟩;rw[HK.out];exact cW O4.out y6
open Go.RowKit
set_option maxHeartbeats 4000000
open Go.RowKit
theorem F3 {B:Nat}{g:Nat}{p:Int}(h:Rd B w g v n p)(hp:0<=p)(Z:p<=600000)(a:Int)(R:0<=a)(Q:a<=10):
  oU mO 127 #[.pointer (some ⟨g,0,none⟩),.int .i64 a] w fun e w'=>∃(o:nX)(l:List Rw),e=.returned o/\(l.length:Int)<=a/\(∀r∈l,nR r)/\aC w' w.heap.size o (jH l)/\(∃I:Int,p<=I/\I<=p+600/\Rd B w' g v n I)/\Bx g w w':=by
 go_enter Tryz.func127,Tryz.ntmps127;go_wp2_with fail;refine (Gc h hp (by omega) a R Q).mono ?_;rintro e w1 ⟨o,l,rfl,hl,G,A,⟨T,O,M,L⟩,D⟩;have J:=D.size;have W:Hid (∀r∈l,nR r):=G;have V:Rs w1 o l:=aC.rs A (by omega);clear A G;go_wp2_with fail;refine (uJ o l _ V).mono ?_;rintro e S ⟨U,rfl,s,H⟩;have Y:Hid (aC S w1.heap.size U (jH l)):=s;clear s;go_wp2_with fail;go_ret;exact⟨_,l,rfl,hl,W.out,cW Y.out J,⟨T,O,M,L.aa H⟩,D.trans (Bx.aD H)⟩
theorem PO {α:Type}{l l':List α}(hn:l.length=l'.length)(h:∀j:Nat,j<l.length->l[j]?=l'[j]?):l=l':=by
 apply List.ext_getElem?
 intro i
 by_cases hi:i<l.length
 ·exact h i hi
 ·rw[jB (by omega),jB (by omega)]
theorem Gg (v v':nX)(l l':List It)(w:oW)(h:Is w v l)(h':Is w v' l'):
  oU mO 17 #[v,v'] w fun e w'=>e=.returned (.bool (decide (l=l')))/\nT w.heap.size w w':=by
 obtain⟨a,y0,rfl,hc,hm,hn,G⟩:=Is.open h;obtain⟨a',x5,rfl,x0,Z,Y,A⟩:=Is.open h';unfold maxLen at hm Z;have HC:=(show Hid _ from G);have Q:=(show Hid _ from A);clear G A h h'
 by_cases B:l.length=l'.length
 ·have HE:Hid (l.length=l'.length):=B;rw[<- B]at x0 Q ⊢;clear B Y;go_enter nB,nA;go_wp2_with fail
  go_loopw [5] (fun i wr=>∃k:Nat,k<=l.length/\i=.int .i64 k/\(∀j:Nat,j<k->l[j]?=l'[j]?)/\nT w.heap.size w wr) (fun i _=>l.length-(intOf i).toNat)
  case atStart=>exact⟨0,by omega,rfl,fun j hj=>by omega,nT.refl _ _⟩
  case round=>
   obtain⟨k,hk,rfl,I,s⟩:=hrel;have HA:=(show Hid _ from I);clear I
   by_cases O:k<l.length
   ·obtain⟨g,off,K,V,D,rfl,hg,hr,c0,c1,c2⟩:=HC.out k O;obtain⟨g',x4,L,J,M,rfl,x9,H,U,T,S⟩:=Q.out k O;have d0:=cB s c0;have d1:=cB s c1;have d2:=cB s c2;have e0:=cB s U;have e1:=cB s T;have e2:=cB s S;clear c0 c1 c2 U T S;have R:Hid ((((K,V)),D)≠(((L,J)),M)->decide (l=l')=false):=fun h=>decide_eq_false fun e=>h (by rw[e,H]at hr;exact (Option.some.inj hr).symm);have HY:Hid ((((K,V)),D)=(((L,J)),M)->∀j:Nat,j<k+1->l[j]?=l'[j]?):=fun h j hj=>by
     by_cases e:j=k
     ·subst e;rw[hr,H,h]
     ·exact HA.out j (by omega)
    clear hr H;have ik:((k:Int)<(l.length:Int)):=by omega
    by_cases h0:K=L
    ·subst h0
     by_cases h1:V=J
     ·subst h1
      by_cases h2:D=M
      ·subst h2;go_wp2_with fail
       go_quiet (fail)
       go_wp2_with fail;go_roundw
       case rel=>exact⟨k+1,by omega,by go_num,HY.out (by simp),dV s _⟩
       case measure=>simp[intOf];omega
      ·have W:(D==M)=false:=beq_eq_false_iff_ne.2 h2;go_wp2_with fail
       go_quiet (fail)
       go_wp2_with fail;go_ret;exact⟨rB (R.out (fun h=>h2 (by simp at h;simp[h]))).symm,dV s _⟩
     ·have W:(V==J)=false:=beq_eq_false_iff_ne.2 h1;go_wp2_with fail
      go_quiet (fail)
      go_wp2_with fail;go_ret;exact⟨rB (R.out (fun h=>h1 (by simp at h;simp[h]))).symm,dV s _⟩
    ·have W:(K==L)=false:=beq_eq_false_iff_ne.2 h0;go_wp2_with fail
     go_quiet (fail)
     go_wp2_with fail;go_ret;exact⟨rB (R.out (fun h=>h0 (by simp at h;simp[h]))).symm,dV s _⟩
   ·go_wp2_with fail;go_ret;exact⟨rB (decide_eq_true (PO HE.out fun j hj=>HA.out j (by omega))).symm,s⟩
 ·have hd:decide (l=l')=false:=decide_eq_false fun e=>B (by rw[e]);rw[hd];have hne:((l.length:Int)==(l'.length:Int))=false:=beq_eq_false_iff_ne.2 (by omega);generalize l.length=n at*;generalize l'.length=n' at *;go_enter nB,nA;go_wp2_with fail;go_ret;exact⟨rfl,nT.refl _ _⟩
theorem nN {l l':List It}{r:Bool}(h:decide (l=l')=r){v':nX}(s:Is w v l)(a:Is w v' l'):
  oU mO 17 #[v,v'] w fun e w'=>e=.returned (.bool r)/\nT w.heap.size w w':=by
 rw[<- h];exact Gg v v' l l' w s a
theorem Md {l:List Rw}{L:List It}(e:aM l x y=L)(h:Rs w v l):
  oU mO 41 #[v,tv x y] w fun e w'=>∃o:nX,e=.returned o/\Is w' o L/\nT w.heap.size w w':=by
 subst e;refine (wO v l x y w h).mono ?_;rintro e w' ⟨o,rfl,own,a⟩;exact⟨o,rfl,aQ.is own (by have:=qZ l x y;omega),a⟩
theorem EF (l:List It):decide (l=l)=true:=by simp
theorem Q9 {f:FuncId}{args:Array nX}{L M:List It}(e:M=L)(hl:M.length<=2097152)(h:oU mO f args w fun e w'=>∃o:nX,e=.returned o/\aQ w' w.heap.size o M/\nT w.heap.size w w'):
  oU mO f args w fun e w'=>∃o:nX,e=.returned o/\Is w' o L/\nT w.heap.size w w':=by
 subst e;refine h.mono ?_;rintro e w' ⟨o,rfl,own,a⟩;exact⟨o,rfl,aQ.is own hl,a⟩
theorem NU {l:List Rw}{L:List It}(e:aM l x y=L)(h:Rs w v l):oU mO 66 #[v,tv x y] w fun e w'=>∃o:nX,e=.returned o/\Is w' o L/\nT w.heap.size w w':=
 Q9 e (by have:=qZ l x y;omega) (Bg v l x y w h)
theorem NJ (r:Rw)(l:List Rw):aJ (fP aW r l)<=r.2.natAbs+aJ l:=by
 induction l with
 | nil=>simp[fP,aJ]
 | cons x l ih=>
  unfold fP
  by_cases h1:aW r.1 x.1=true
  ·rw[if_pos h1];simp only[aJ];omega
  ·rw[if_neg h1]
   by_cases h2:aW x.1 r.1=true
   ·rw[if_pos h2];simp only[aJ];omega
   ·rw[if_neg h2];simp only[aJ];omega
theorem LZ (l:List Rw):aJ (iF aW l)<=aJ l:=by
 induction l using p6 with
 | h0=>simp[iF]
 | h1 l r ih=>
  rw[lV,cV];have:=NJ r (iF aW l);simp only[aJ];omega
theorem GL (l:List Rw)(p:Rw->Bool):aJ (l.filter p)<=aJ l:=by
 induction l with
 | nil=>simp
 | cons r l ih=>
  rw[List.filter_cons]
  split
  ·simp only[aJ];omega
  ·simp only[aJ];omega
theorem Fz (l:List Rw):aJ (aO aW l)<=aJ l:=Int.le_trans (GL _ _) (LZ l)
theorem Lb (l:List Rw):aJ (kS l)<=aJ l:=by
 unfold kS kJ;split
 ·exact Fz l
 ·exact eN l
end Go.Proofs.YtbdpcngcbnoioaaGreatDoor
