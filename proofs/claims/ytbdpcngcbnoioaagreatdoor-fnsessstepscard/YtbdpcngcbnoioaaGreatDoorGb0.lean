import Derived.Test.YtbdpcngcbnoioaaGreatDoorGa8
set_option maxRecDepth 100000
set_option maxHeartbeats 8000000
namespace Go.Proofs.YtbdpcngcbnoioaaGreatDoor
open Go.RowKit
open _root_.List renaming mem_range->fD,getElem_of_mem->fH,mem_filter->fV,pairwise_iff_getElem->gY,getElem_mem->gZ,mem_append_left->iC,mem_append->jU,perm_ext_iff_of_nodup->kR,mem_cons->kX,mem_map->lI,Perm->lY
open _root_.Nat renaming mul_le_mul->mF,succ_mul->mJ,mul_comm->nU,mod_eq_of_lt->oJ,div_eq_of_lt->oO,mul_add_mod->qA,mul_add_div->rN,zero_mul->sE,add_zero->sG,le_refl->sH
open Go.Proofs.Tryz renaming prog->sI,underlying27->wH,ntmps28->wR,func28->AT
open Go.RowKit renaming Below->B3
open Go renaming Value->BK,Calls->E0,World->EJ,wp_loop_rounds->Ga,rounds_succ->Lx
open Go.RowKit.Below renaming refl->Md
open _root_.Bool renaming and_eq_true->Nh,eq_iff_iff->Ov
variable {f g l l':LI}{j k:Nat}{p:Int×Int}{r:Bool}{v:BK}{w:EJ}
abbrev Fb (p:Int×Int):Bool:=bH p.1 p.2
abbrev oP (p q:Int×Int):Bool:=cV p.1 p.2 q.1 q.2
theorem E7 {q:Int×Int}(h:oP p q=true)(a:oP q p=true):p=q:=by
 obtain⟨h1,h2⟩:=KO h a;exact Prod.ext h1 h2
theorem rG (h:Fb p=true):oP p p=true:=by unfold oP;rw[DK];exact h
theorem fS {x y:Int}:dU l x y=true↔∃p∈l,cV p.1 p.2 x y=true:=by
 constructor
 ·intro h;obtain⟨k,s,a⟩:=IT h;refine⟨l[k],gZ s,?_⟩
  simpa[tA,tB,s]using a
 ·rintro⟨p,hp,a⟩;obtain⟨k,s,rfl⟩:=fH hp;exact uR s (by simpa[tA,tB,s]using a)
structure tO (acc P:LI):Prop where
 sub:∀p∈acc,p∈P
 anti:∀p∈acc,∀q∈acc,oP p q=true->p=q
 nodup:acc.Nodup
 cov:∀q∈P,∃p∈acc,oP p q=true
theorem tO.step {acc P:LI}{x:Int×Int}(h:tO acc P)(hx:Fb x=true):tO (kV acc x) (P++[x]):=by
 unfold kV
 split
 ·rename_i ha;obtain⟨p,hp,s⟩:=fS.1 ha;refine⟨fun p hp=>iC _ (h.sub p hp),h.anti,h.nodup,fun q hq=>?_⟩
  rcases jU.1 hq with hq|hq
  ·exact h.cov q hq
  ·obtain rfl:q=x:=by simpa using hq
   exact⟨p,hp,s⟩
 ·rename_i ha;have B:∀p∈acc,oP p x=false:=fun p hp=>by
   cases e:oP p x
   ·rfl
   ·exact absurd (fS.2 ⟨p,hp,e⟩) ha
  have A:∀p,p∈acc.filter (fG x.1 x.2)++[x]->(p∈acc/\oP x p=false)\/p=x:=fun p hp=>by
   rcases jU.1 hp with hp|hp
   ·obtain⟨h1,h2⟩:=fV.1 hp;refine .inl ⟨h1,?_⟩
    simpa[fG]using h2
   ·exact .inr (by simpa using hp)
  refine⟨fun p hp=>?_,fun p hp q hq s=>?_,?_,fun q hq=>?_⟩
  ·rcases A p hp with⟨h1,_⟩|rfl
   ·exact iC _ (h.sub p h1)
   ·simp
  ·rcases A p hp with⟨h1,h2⟩|rfl<;>rcases A q hq with⟨h3,h4⟩|rfl
   ·exact h.anti p h1 q h3 s
   ·rw[B p h1]at s;cases s
   ·rw[h4]at s;cases s
   ·rfl
  ·rw[List.nodup_append];refine⟨h.nodup.filter _,by simp,fun a ha b D=>?_⟩;obtain rfl:b=x:=by simpa using D
   rintro rfl;have:=B a (fV.1 ha).1;rw[rG hx]at this;cases this
  ·rcases jU.1 hq with hq|hq
   ·obtain⟨p,hp,s⟩:=h.cov q hq;cases e:oP x p
    ·exact⟨p,iC _ (fV.2 ⟨hp,by simp[fG];exact e⟩),s⟩
    ·exact⟨x,by simp,lT e s⟩
   ·obtain rfl:q=x:=by simpa using hq
    exact⟨q,by simp,rG hx⟩
theorem tO.fold {xs:LI}:∀{acc P:LI},tO acc P->(∀p∈xs,Fb p=true)->tO (xs.foldl kV acc) (P++xs):=by
 induction xs with
 | nil=>intro acc P h _;simpa using h
 | cons x xs ih=>
  intro acc P h hx;have h1:=h.step (hx x (by simp));have h2:=ih h1 (fun p hp=>hx p (by simp[hp]))
  simpa using h2
theorem jP (h:fW l=true):∀p∈l,Fb p=true:=by
 intro p hp;obtain⟨k,a,rfl⟩:=fH hp;unfold fW at h;rw[List.all_eq_true]at h;have:=h k (by simpa using a)
 simpa[tA,tB,a]using this
theorem xH (h:fW l=true):tO (iG l l.length) l:=by
 unfold iG;rw[List.take_length];have:=tO.fold (xs:=l) (acc:=[]) (P:=[]) ⟨by simp,by simp,by simp,by simp⟩ (jP h)
 simpa using this
theorem tO.iff {acc P:LI}(h:tO acc P)(p:Int×Int):p∈acc↔p∈P/\∀q∈P,oP q p=true->q=p:=by
 constructor
 ·intro hp;refine⟨h.sub p hp,fun q hq s=>?_⟩;obtain⟨r,hr,a⟩:=h.cov q hq;obtain rfl:=h.anti r hr p hp (lT a s);exact E7 s a
 ·rintro⟨hp,A⟩;obtain⟨r,hr,B⟩:=h.cov p hp;rw[<- A r (h.sub r hr) B];exact hr
theorem tK {a b:Int}:lV l a b=true↔(a,b)∈l/\∀q∈l,oP q (a,b)=true->q=(a,b):=by
 have e:∀i,(hi:i<l.length)->BM l a b i=decide (l[i]=(a,b)):=fun i hi=>by
  unfold BM;simp[tA,tB,hi,Prod.ext_iff]
 have B:∀i,(hi:i<l.length)->cV (tA l i) (tB l i) a b=oP l[i] (a,b):=fun i hi=>by simp[tA,tB,hi]
 unfold lV tD pN;rw[Nh,List.any_eq_true,Bool.not_eq_true',List.any_eq_false];constructor
 ·rintro⟨⟨i,hi,h1⟩,h2⟩;rw[fD]at hi;rw[e i hi]at h1;refine⟨by have:=gZ hi;rw[of_decide_eq_true h1]at this;exact this,fun q hq A=>?_⟩;obtain⟨j,s,rfl⟩:=fH hq;have:=h2 j (fD.2 s);unfold Ar at this;rw[e j s,B j s,A]at this
  simpa using this
 ·rintro⟨h1,h2⟩;obtain⟨i,hi,h3⟩:=fH h1;refine⟨⟨i,fD.2 hi,by rw[e i hi];simpa using h3⟩,fun j s=>?_⟩;rw[fD]at s;unfold Ar;rw[e j s,B j s];have:=h2 l[j] (gZ s);cases A:oP l[j] (a,b)
  ·simp
  ·simp[this A]
theorem pQ (h:fW l=true)(p:Int×Int):p∈cK l↔p∈l/\∀q∈l,oP q p=true->q=p:=by
 unfold cK;rw[if_pos h];unfold lH;rw[lI];constructor
 ·rintro⟨i,hi,rfl⟩;exact tK.1 (fV.1 hi).2
 ·rintro⟨h1,h2⟩;have ho:=eL.1 (jP h p h1);have s:gA (p.1.toNat*8+(7-p.2).toNat)=p.1:=by unfold gA;omega
  have a:gB (p.1.toNat*8+(7-p.2).toNat)=p.2:=by unfold gB;omega
  refine⟨p.1.toNat*8+(7-p.2).toNat,fV.2 ⟨fD.2 (by omega),?_⟩,by rw[s,a]⟩;rw[s,a];exact tK.2 ⟨h1,h2⟩
theorem sA (l:LI):(cK l).Pairwise fun p q=>p.1<q.1:=by
 unfold cK
 split
 ·rename_i h;unfold lH;rw[List.pairwise_map,List.pairwise_filter];refine List.Pairwise.imp_of_mem ?_ (List.pairwise_lt_range (n:=64));intro i j hi B D h1 h2;rw[fD]at hi B;have F:gA i<=gA j:=by unfold gA;omega
  have a:gA i=gA j->gB j<gB i:=by unfold gA gB;omega
  by_cases e:gA i=gA j
  ·have h3:=tK.1 h1;have h4:=tK.1 h2;have A:=jP h _ h3.1;have s:=jP h _ h4.1;have:=h3.2 _ h4.1 (fR.2 ⟨s,A,by simp;omega,by have:=a e;simp;omega⟩);rw[Prod.ext_iff]at this;have:=a e;simp at*;omega
  ·omega
 ·simp
theorem A9 (h:l.Pairwise fun p q=>p.1<q.1):l.Nodup:=h.imp fun {p q} a e=>by subst e;omega
theorem IQ (h:l.Pairwise fun p q=>p.1<q.1):∀p∈l,∀q∈l,p.1=q.1->p=q:=by
 induction h with
 | nil=>simp
 | cons hd _ ih=>
  intro p hp q hq e
  rcases kX.1 hp with rfl|s<;>rcases kX.1 hq with rfl|a
  ·rfl
  ·have:=hd q a;omega
  ·have:=hd p s;omega
  ·exact ih p s q a e
theorem Nf (h:l.Pairwise fun p q=>p.1<q.1):∀s:Nat,(∀p∈l,(s:Int)<=p.1/\p.1<=7)->l.length<=8-s:=by
 induction h with
 | nil=>simp
 | cons hd _ ih=>
  rename_i a l _;intro s A;obtain⟨h1,h2⟩:=A a (by simp);have:=ih (s+1) (fun p hp=>by have:=hd p hp;have:=A p (by simp[hp]);omega);simp;omega
theorem uT :∀p∈cK l,Fb p=true:=by
 intro p hp;cases h:fW l
 ·unfold cK at hp;rw[h]at hp;simp at hp
 ·exact jP h p ((pQ h p).1 hp).1
theorem BC (l:LI):(cK l).length<=8:=
 Nf (sA l) 0 fun p hp=>by have:=eL.1 (uT p hp);omega
theorem wV (h:fW l=true):(iG l l.length).Perm (cK l):=
 (kR (xH h).nodup (A9 (sA l))).2 fun p=>((xH h).iff p).trans (pQ h p).symm
theorem Jg (h:fW l=true)(hp:l'.Perm (iG l l.length))(hs:∀a b,a<b->b<l'.length->tA l' a<=tA l' b):l'=cK l:=by
 have s:=hp.trans (wV h);refine lY.eq_of_pairwise (le:=fun p q=>p.1<=q.1) ?_ ?_ ((sA l).imp fun {p q} h=>Int.le_of_lt h) s
 ·intro p q B A h1 h2;exact IQ (sA l) p (s.mem_iff.1 B) q A (by omega)
 ·rw[gY];intro i j hi D F;have:=hs i j F D
  simpa[tA,hi,D]using this
theorem Ep (w:EJ):
  E0 sI 205 #[.slice none 0 0,.int .i64 0,.int .i64 0,.func (.func 96) #[] #[]] w fun e w'=>e=.returned (.tuple #[])/\w'=w:=by
 go_enter Tryz.func205,Tryz.ntmps205;go_wp2_with fail;refine Ga 1 ?_;rw[Lx];go_wp2_with fail
 go_end0
 exact⟨rfl,rfl⟩
theorem LF (r:Int)(w:EJ):
  E0 sI 165 #[.slice none 0 0,.int .i64 0,.int .i64 0,.int .i64 r,.func (.func 96) #[] #[]] w fun e w'=>e=.returned (.tuple #[])/\w'=w:=by
 go_enter Tryz.func165,Tryz.ntmps165;go_wp2_with fail;refine Ga 1 ?_;rw[Lx];go_wp2_with fail;refine (Ep _).mono ?_;rintro e w1 ⟨rfl,rfl⟩;go_wp2_with fail
 (try simp only[Exit.inBlock,Exit.then])
 refine bodyPost_ret (results_none rfl _ _ _) rfl ?_;exact⟨rfl,rfl⟩
theorem J7 (w:EJ):E0 sI 95 #[.slice none 0 0,.func (.func 96) #[] #[]] w fun e w'=>e=.returned (.tuple #[])/\w'=w:=by
 go_enter Tryz.func95,Tryz.ntmps95
 go_wp2_with (first|(go_at_call 166;refine (G0 0 (by omega) _).mono ?_;rintro e w' ⟨⟨r,rfl⟩,rfl⟩)|(go_at_call 165;refine (LF _ _).mono ?_;rintro e w1 ⟨rfl,rfl⟩))
 go_end0
 exact⟨rfl,rfl⟩
theorem JH {B:Nat}(ha:fW l=true)(h:aW w B v (iG l l.length))(M:B<=w.heap.size):
  E0 sI 95 #[v,.func (.func 96) #[] #[]] w fun e w'=>e=.returned (.tuple #[])/\aW w' B v (cK l)/\B3 B w w':=by
 have s:=(wV ha).length_eq;have h8:=BC l
 rcases kE h with⟨rfl,F⟩|⟨g,I,c,rfl,hg,L,hs,G,hm,A⟩
 ·refine (J7 w).mono ?_;rintro e w' ⟨rfl,rfl⟩;rw[F]at s;have:cK l=[]:=List.eq_nil_of_length_eq_zero s.symm;rw[this];exact⟨rfl,⟨rfl,.inl ⟨rfl,rfl⟩⟩,Md _ _⟩
 ·refine (LP g I c _ w L hs G (by omega) A).mono ?_;rintro e w' ⟨O,l',rfl,hp,D,b',s',H,J⟩;have N:=hp.length_eq;have e:=Jg ha hp (fun a b h1 h2=>D a b h1 (by omega));subst e;rw[s]at H G ⊢;exact⟨rfl,tX b' H s' G hm hg,J.bel M hg⟩
theorem CG {a b:Int}(h:bH a b=r)(w:EJ):E0 sI 67 #[tv a b] w fun e w'=>e=.returned (.bool r)/\B3 w.heap.size w w':=by
 rw[<- h];exact fB a b w
theorem sW (v:BK)(l:LI)(w:EJ)(h:Ts w v l):
  E0 sI 32 #[v] w fun e w'=>∃o:BK,e=.returned o/\aW w' w.heap.size o (cK l)/\B3 w.heap.size w w':=by
 have W:=(show Hid _ from h);obtain⟨a,h9,rfl,hc,hm,hn,A⟩:=h;unfold maxLen at hm;have Z:=(show Hid _ from A);clear A;go_enter Tryz.func32,Tryz.ntmps32;go_wp2_with fail
 go_loopw [8] (fun i wr=>∃k:Nat,k<=l.length/\i=.int .i64 k/\(∀j,j<k->bH (tA l j) (tB l j)=true)/\B3 w.heap.size w wr) (fun i _=>l.length-(intOf i).toNat)
 case atStart=>exact⟨0,by omega,rfl,fun j V=>by omega,Md _ _⟩
 case round=>
  obtain⟨k,hk,rfl,G,B⟩:=hrel;have R:=(show Hid _ from G);clear G
  by_cases I:k<l.length
  ·obtain⟨g,off,rfl,hg,Q,c1⟩:=Z.out k I;have d0:=cB B Q;have d1:=cB B c1;clear Q c1;generalize O:tA l k=X at*;generalize N:tB l k=Y at*;have T:Hid (tA l k=X):=O;have S:Hid (tB l k=Y):=N;clear O N;have D:B3 wr.heap.size wr (wr.alloc (.cells #[.int .i64 X,.int .i64 Y] 32)):=aG (Md _ _) _;cases hp:bH X Y
   ·have L:Hid (cK l=[]):=by
     show _=_
     have:fW l=false:=Bz I (by rw[T.out,S.out];exact hp);unfold cK;rw[this];rfl
    go_wp2_with fail;refine (CG hp _).mono ?_;rintro e w1 ⟨rfl,s⟩;have F:=aH (aH B D) s;go_wp2_with fail;go_ret;rw[L.out];exact⟨_,rfl,⟨rfl,.inl ⟨rfl,rfl⟩⟩,F⟩
   ·have L:Hid (bH (tA l k) (tB l k)=true):=by show _=true;rw[T.out,S.out];exact hp
    go_wp2_with fail;refine (CG hp _).mono ?_;rintro e w1 ⟨rfl,s⟩;have F:=aH (aH B D) s;go_wp2_with fail;go_roundw
    case rel=>
     refine⟨k+1,by omega,by go_num,fun j V=>?_,F⟩
     by_cases e:j=k
     ·subst e;exact L.out
     ·exact R.out j (by omega)
    case measure=>simp[intOf];omega
  ·obtain rfl:k=l.length:=by omega
   have ha:Hid (fW l=true):=uV R.out;go_wp2_with fail;refine (Dp _ l wr (Ts.keep W.out B)).mono ?_;rintro e w1 ⟨o,rfl,J,s⟩;have M:=B.size;have U:=s.size;go_wp2_with fail;refine (JH ha.out J (by omega)).mono ?_;rintro e w2 ⟨rfl,H,D⟩;go_wp2_with fail;go_ret;exact⟨_,rfl,bQ H M,aH B (s.trans D)⟩
theorem uG (a:k<l.length):(tA l k,tB l k)∈l:=by
 have e:l[k]=(tA l k,tB l k):=by simp[tA,tB,a]
 rw[<- e];exact gZ a
theorem Al (h:p∈l):∃k,k<l.length/\p=(tA l k,tB l k):=by
 obtain⟨k,a,rfl⟩:=fH h;exact⟨k,a,by simp[tA,tB,a]⟩
theorem Ap (h:∀p∈l,Fb p=true):fW l=true:=
 uV fun _ a=>h _ (uG a)
theorem mH (h:cC l=true):fW l=true:=uV fun _ a=>JJ h a
theorem BH (h:cC l=true)(i:Nat):∀d,i+d+1<l.length->tA l i<tA l (i+d+1)/\tB l (i+d+1)<tB l i:=by
 intro d
 induction d with
 | zero=>
  intro hd;have:=DO h hd;simp[eW]at this;exact⟨this.2.1,this.2.2⟩
 | succ d ih=>
  intro hd;have h1:=ih (by omega);have h2:=DO h hd;simp[eW]at h2;have e:i+(d+1)=i+d+1:=by omega
  rw[e]at h2 ⊢;omega
theorem J3 (h:cC l=true):l.Pairwise fun p q=>p.1<q.1:=by
 rw[gY];intro i j hi a s;have:=(BH h i (j-i-1) (by omega)).1;rw[show i+(j-i-1)+1=j by omega]at this
 simpa[tA,hi,a]using this
theorem Ks (h:cC l=true):∀p∈l,∀q∈l,oP p q=true->p=q:=by
 intro p hp q hq a;obtain⟨i,hi,rfl⟩:=Al hp;obtain⟨j,A,rfl⟩:=Al hq;have h1:=fR.1 a;simp only at h1
 rcases Nat.lt_trichotomy i j with s|rfl|s
 ·have:=BH h i (j-i-1) (by omega);rw[show i+(j-i-1)+1=j by omega]at this;omega
 ·rfl
 ·have:=BH h j (i-j-1) (by omega);rw[show j+(i-j-1)+1=i by omega]at this;omega
theorem Hh (h:fW l=false):cK l=[]:=by unfold cK;rw[h];rfl
theorem xO (l:LI):cC (cK l)=true:=by
 cases h:fW l
 ·rw[Hh h];rfl
 ·refine AG fun j a=>?_;have ho:=uT _ (uG a);unfold eW;rw[show bH (tA (cK l) j) (tB (cK l) j)=true from ho,Bool.true_and]
  rcases j with _|m
  ·simp
  ·have hm:m<(cK l).length:=by omega
   have h1:=gY.1 (sA l) m (m+1) hm a (by omega);have A:=uG hm;have s:=uG a;have h2:tA (cK l) m<tA (cK l) (m+1):=by simpa[tA,hm,a]using h1
   have h3:tB (cK l) (m+1)<tB (cK l) m:=by
    rcases Int.lt_or_le (tB (cK l) (m+1)) (tB (cK l) m) with h3|h3
    ·exact h3
    ·have:=((pQ h _).1 s).2 _ ((pQ h _).1 A).1 (fR.2 ⟨uT _ A,uT _ s,by simp;omega,by simp;omega⟩);rw[Prod.ext_iff]at this;simp at this;omega
   simp[h2,h3]
theorem IX (h:fW l=true):∀q∈l,∃p∈cK l,oP p q=true:=by
 intro q hq;obtain⟨p,hp,a⟩:=(xH h).cov q hq;exact⟨p,(wV h).mem_iff.1 hp,a⟩
theorem xK (h:fW l=true)(X Y:Int):dU (cK l) X Y=dU l X Y:=by
 rw[Ov];constructor
 ·intro h1;obtain⟨p,hp,a⟩:=fS.1 h1;exact fS.2 ⟨p,((pQ h p).1 hp).1,a⟩
 ·intro h1;obtain⟨q,hq,a⟩:=fS.1 h1;obtain⟨p,hp,s⟩:=IX h q hq;exact fS.2 ⟨p,hp,lT s a⟩
theorem Fn (hf:cC f=true)(h:∀X Y,dU f X Y=dU g X Y):∀p∈f,p∈g:=by
 intro p hp;have ho:=jP (mH hf) p hp;have h1:dU g p.1 p.2=true:=by rw[<- h];exact fS.2 ⟨p,hp,rG ho⟩
 obtain⟨q,hq,a⟩:=fS.1 h1;have A:oP q q=true:=rG (fR.1 a).1;have h2:dU f q.1 q.2=true:=by rw[h];exact fS.2 ⟨q,hq,A⟩
 obtain⟨r,hr,s⟩:=fS.1 h2;obtain rfl:=Ks hf r hr p hp (lT s a);rw[E7 s a];exact hq
theorem O9 (hf:f.Pairwise fun p q=>p.1<q.1)(hg:g.Pairwise fun p q=>p.1<q.1)(h:∀p,p∈f↔p∈g):f=g:=by
 have hp:f.Perm g:=(kR (A9 hf) (A9 hg)).2 h;refine lY.eq_of_pairwise (le:=fun p q=>p.1<=q.1) ?_ (hf.imp fun {p q} h=>Int.le_of_lt h) (hg.imp fun {p q} h=>Int.le_of_lt h) hp;intro p q s a h1 h2;exact IQ hg p ((h p).1 s) q a (by omega)
theorem Nl (hf:cC f=true)(hg:cC g=true)(h:∀X Y,dU f X Y=dU g X Y):f=g:=
 O9 (J3 hf) (J3 hg) fun p=>⟨Fn hf h p,Fn hg (fun X Y=>(h X Y).symm) p⟩
theorem GT (hf:cC f=true):cK f=f:=
 Nl (xO f) hf fun X Y=>xK (mH hf) X Y
theorem lB (hf:cC f=true):f.length<=8:=by
 have:=BC f;rw[GT hf]at this;exact this
def N4 (f g:LI)(n i:Nat):Int×Int:=(iE (tA f (i / n)) (tB f (i / n)) (tA g (i%n)) (tB g (i%n)),iF (tA f (i / n)) (tB f (i / n)) (tA g (i%n)) (tB g (i%n)))
def gV (f g:LI)(n m:Nat):LI:=(List.range m).map (N4 f g n)
def mT (f g:LI):LI:=gV f g g.length (f.length*g.length)
theorem pK (f g:LI)(n m:Nat):(gV f g n m).length=m:=by simp[gV]
theorem xC (f g:LI){n:Nat}(a:j<n):gV f g n (k*n+(j+1))=gV f g n (k*n+j)++[(iE (tA f k) (tB f k) (tA g j) (tB g j),iF (tA f k) (tB f k) (tA g j) (tB g j))]:=by
 have A:(k*n+j) / n=k:=by
  rw[nU,rN (by omega),oO a,sG]
 have s:(k*n+j)%n=j:=by
  rw[nU,qA,oJ a]
 unfold gV;rw[<- Nat.add_assoc,List.range_succ,List.map_append,List.map_cons,List.map_nil];unfold N4;rw[A,s]
theorem wX :p∈mT f g↔∃a∈f,∃b∈g,p=(iE a.1 a.2 b.1 b.2,iF a.1 a.2 b.1 b.2):=by
 unfold mT gV;rw[lI];constructor
 ·rintro⟨i,hi,rfl⟩;rw[fD]at hi;have hg:0<g.length:=by
   rcases Nat.eq_zero_or_pos g.length with h|h
   ·rw[h,Nat.mul_zero]at hi;omega
   ·exact h
  have h1:i / g.length<f.length:=(Nat.div_lt_iff_lt_mul hg).2 hi;have h2:i%g.length<g.length:=Nat.mod_lt _ hg;exact⟨_,uG h1,_,uG h2,rfl⟩
 ·rintro⟨a,ha,b,A,rfl⟩;obtain⟨i,hi,rfl⟩:=Al ha;obtain⟨j,s,rfl⟩:=Al A;have hg:0<g.length:=by omega
  refine⟨i*g.length+j,fD.2 ?_,?_⟩
  ·have:(i+1)*g.length<=f.length*g.length:=Nat.mul_le_mul_right _ hi;rw[mJ]at this;omega
  ·have D:(i*g.length+j) / g.length=i:=by
    rw[nU,rN hg,oO s,sG]
   have B:(i*g.length+j)%g.length=j:=by
    rw[nU,qA,oJ s]
   unfold N4;rw[D,B]
theorem JO (hf:fW f=true)(hg:fW g=true):fW (mT f g)=true:=by
 refine Ap fun p hp=>?_;obtain⟨a,ha,b,s,rfl⟩:=wX.1 hp;exact yM (jP hf a ha) (jP hg b s)
theorem JY (hf:fW f=true)(hg:fW g=true)(X Y:Int):dU (mT f g) X Y=(dU f X Y&&dU g X Y):=by
 rw[Ov,Nh];constructor
 ·intro h;obtain⟨p,hp,A⟩:=fS.1 h;obtain⟨a,ha,b,s,rfl⟩:=wX.1 hp;have h1:=jP hf a ha;have h2:=jP hg b s;exact⟨fS.2 ⟨a,ha,lT (N2 h1 h2) A⟩,fS.2 ⟨b,s,lT (LE h1 h2) A⟩⟩
 ·rintro⟨h1,h2⟩;obtain⟨a,ha,D⟩:=fS.1 h1;obtain⟨b,s,B⟩:=fS.1 h2;exact fS.2 ⟨_,wX.2 ⟨a,ha,b,s,rfl⟩,K7 D B⟩
def eO (f g:LI):LI:=if cC f&&cC g then cK (mT f g) else []
theorem AF (hf:cC f=true)(hg:cC g=true):eO f g=cK (mT f g):=by unfold eO;rw[hf,hg];rfl
theorem Em (hf:cC f=false):eO f g=[]:=by unfold eO;rw[hf];rfl
theorem AR (hg:cC g=false):eO f g=[]:=by unfold eO;rw[hg,Bool.and_false];rfl
theorem AO (f g:LI):cC (eO f g)=true:=by
 unfold eO;split
 ·exact xO _
 ·rfl
theorem AI (f g:LI):(eO f g).length<=8:=lB (AO f g)
theorem Kq (hf:cC f=true)(hg:cC g=true)(X Y:Int):dU (eO f g) X Y=(dU f X Y&&dU g X Y):=by
 rw[AF hf hg,xK (JO (mH hf) (mH hg)),JY (mH hf) (mH hg)]
theorem Ny (hn:l.length=l'.length)(h:∀j,j<l.length->tA l j=tA l' j/\tB l j=tB l' j):l=l':=by
 apply List.ext_getElem hn
 intro i h1 h2;have:=h i h1;simp[tA,tB,h1,h2]at this;exact Prod.ext this.1 this.2
theorem OC (h:¬(tA l j=tA l' j/\tB l j=tB l' j)):decide (l=l')=false:=
 decide_eq_false fun e=>h (by subst e;exact⟨rfl,rfl⟩)
theorem En (v v':BK)(l l':LI)(w:EJ)(h:Ts w v l)(h':Ts w v' l'):
  E0 sI 28 #[v,v'] w fun e w'=>e=.returned (.bool (decide (l=l')))/\B3 w.heap.size w w':=by
 obtain⟨a,x5,rfl,hc,hm,hn,B⟩:=h;obtain⟨a',x0,rfl,R,O,N,s⟩:=h';unfold maxLen at hm O;have HC:=(show Hid _ from B);have I:=(show Hid _ from s);clear B s
 by_cases A:l.length=l'.length
 ·have HE:Hid (l.length=l'.length):=A;rw[<- A]at R I ⊢;clear A N;go_enter AT,wR;go_wp2_with fail
  go_loopw [5] (fun i wr=>∃k:Nat,k<=l.length/\i=.int .i64 k/\(∀j,j<k->tA l j=tA l' j/\tB l j=tB l' j)/\B3 w.heap.size w wr) (fun i _=>l.length-(intOf i).toNat)
  case atStart=>exact⟨0,by omega,rfl,fun j Q=>by omega,Md _ _⟩
  case round=>
   obtain⟨k,hk,rfl,F,D⟩:=hrel;have W:=(show Hid _ from F);clear F
   by_cases H:k<l.length
   ·obtain⟨g,off,rfl,hg,S,c1⟩:=HC.out k H;obtain⟨g',Z,rfl,x4,M,L⟩:=I.out k H;have d0:=cB D S;have d1:=cB D c1;have e0:=cB D M;have e1:=cB D L;clear S c1 M L;have V:Hid (¬(tA l k=tA l' k/\tB l k=tB l' k)->decide (l=l')=false):=fun h=>OC h;have HY:Hid ((tA l k=tA l' k/\tB l k=tB l' k)->∀j,j<k+1->tA l j=tA l' j/\tB l j=tB l' j):=fun h j Q=>by
     by_cases e:j=k
     ·subst e;exact h
     ·exact W.out j (by omega)
    generalize tA l k=X at*;generalize tB l k=Y at*;generalize tA l' k=U at *;generalize tB l' k=T at *;have ik:((k:Int)<(l.length:Int)):=by omega
    by_cases G:X=U
    ·by_cases J:Y=T
     ·subst G J;go_wp2_with fail
      go_quiet (fail)
      go_wp2_with fail;go_roundw
      case rel=>exact⟨k+1,by omega,by go_num,HY.out (by simp),dC D _⟩
      case measure=>simp[intOf];omega
     ·subst G;have ny:(Y==T)=false:=beq_eq_false_iff_ne.2 J;go_wp2_with fail
      go_quiet (fail)
      go_wp2_with fail;go_ret;exact⟨rB (V.out (fun h=>J h.2)).symm,dC D _⟩
    ·have nx:(X==U)=false:=beq_eq_false_iff_ne.2 G;go_wp2_with fail
     go_quiet (fail)
     go_wp2_with fail;go_ret;exact⟨rB (V.out (fun h=>G h.1)).symm,dC D _⟩
   ·go_wp2_with fail;go_ret;exact⟨rB (decide_eq_true (Ny HE.out fun j Q=>W.out j (by omega))).symm,D⟩
 ·have hd:decide (l=l')=false:=decide_eq_false fun e=>A (by rw[e]);rw[hd];have hne:((l.length:Int)==(l'.length:Int))=false:=beq_eq_false_iff_ne.2 (by omega);generalize l.length=n at*;generalize l'.length=n' at *;go_enter AT,wR;go_wp2_with fail;go_ret;exact⟨rfl,Md _ _⟩
theorem GM (h:decide (l=l')=r){v':BK}(s:Ts w v l)(a:Ts w v' l'):
  E0 sI 28 #[v,v'] w fun e w'=>e=.returned (.bool r)/\B3 w.heap.size w w':=by
 rw[<- h];exact En v v' l l' w s a
theorem jN (h:cC l=r)(a:Ts w v l):E0 sI 80 #[v] w fun e w'=>e=.returned (.bool r)/\B3 w.heap.size w w':=by
 rw[<- h];exact oC v l w a
theorem CA {n m:Nat}(hn:n<=8)(hm:m<=8)(a:k<m)(s:j<n):k*n+j<64:=by
 have h1:(k+1)*n<=8*8:=mF (by omega) hn;rw[mJ]at h1;omega
theorem DS (v v':BK)(f g:LI)(w:EJ)(h:Ts w v f)(h':Ts w v' g):
  E0 sI 63 #[v,v'] w fun e w'=>∃o:BK,e=.returned o/\aW w' w.heap.size o (eO f g)/\B3 w.heap.size w w':=by
 obtain⟨i0,hi,z5,z4,z3⟩:=info_parts mW;have H:B3 w.heap.size w (w.alloc (.cells #[] 32)):=aG (Md _ _) _;have o0:=lZ w 32 2;have Q:=h.keep H;have x4:=h'.keep H;go_enter Tryz.func63,Tryz.ntmps63;go_wp2_with fail;generalize (w.alloc (.cells #[] 32))=W at*;cases hf:cC f
 ·have Z:Hid (eO f g=[]):=Em hf;refine (sQ hf Q).mono ?_;rintro e w1 ⟨rfl,A⟩;have D:=aH H A;have R:=bJ o0 A;clear o0 H A;go_wp2_with fail;go_ret;refine⟨_,rfl,?_,D⟩;rw[Z.out];exact R
 refine (sQ hf Q).mono ?_;rintro e w1 ⟨rfl,A⟩;have D:=aH H A;have R:=bJ o0 A;have z0:=Q.keep A;have S:=x4.keep A;clear o0 H A Q x4;cases hg:cC g
 ·have Z:Hid (eO f g=[]):=AR hg;go_wp2_with fail;refine (sQ hg S).mono ?_;rintro e w2 ⟨rfl,F⟩;have N:=aH D F;have o2:=bJ R F;clear R D F;go_wp2_with fail;go_ret;refine⟨_,rfl,?_,N⟩;rw[Z.out];exact o2
 have Z:Hid (eO f g=cK (mT f g)):=AF hf hg;have HJ:Hid (mT f g=gV f g g.length (f.length*g.length)):=rfl;have x9:=lB hf;have x8:=lB hg;go_wp2_with fail;refine (sQ hg S).mono ?_;rintro e w2 ⟨rfl,F⟩;have N:=aH D F;have o2:=bJ R F;clear R D F z0 S hf hg;obtain⟨a,a4,rfl,hc,hm,hn,J⟩:=h;obtain⟨a',v4,rfl,a1,z6,w7,G⟩:=h';unfold maxLen at hm z6;have HC:=(show Hid _ from J);have u4:=(show Hid _ from G);clear J G;generalize f.length=U at*;generalize g.length=B at*;go_wp2_with fail
 go_loopw [5,6] (fun o i wr=>∃k:Nat,k<=U/\i=.int .i64 k/\aW wr w.heap.size o (gV f g B (k*B))/\B3 w.heap.size w wr) (fun _ i _=>U-(intOf i).toNat)
 case atStart=>exact⟨0,by omega,rfl,by rw[sE];exact o2,N⟩
 case round=>
  clear o2;obtain⟨k,hk,rfl,s,O⟩:=hrel;have M:=(show Hid _ from s);clear s
  by_cases x7:k<U
  ·have v9:((k:Int)<(U:Int)):=by omega
   go_wp2_with fail
   go_loopw [5,7] (fun o i wq=>∃j:Nat,j<=B/\i=.int .i64 j/\aW wq w.heap.size o (gV f g B (k*B+j))/\B3 w.heap.size w wq) (fun _ i _=>B-(intOf i).toNat)
   case atStart=>exact⟨0,by omega,rfl,M.out,O⟩
   case round=>
    clear M O;obtain⟨j,hj,rfl,s,O⟩:=hrel
    by_cases V:j<B
    ·obtain⟨gf,off,rfl,a0,c0,c1⟩:=HC.out k x7;obtain⟨gg,I,rfl,w9,p0,p1⟩:=u4.out j V;have y2:Hid (∀w':EJ,B3 w.heap.size w w'->w'.cell? ⟨gf,off+k*2,none⟩=some (.int .i64 (tA f k))/\w'.cell? ⟨gf,off+k*2+1,none⟩=some (.int .i64 (tB f k))/\w'.cell? ⟨gg,I+j*2,none⟩=some (.int .i64 (tA g j))/\w'.cell? ⟨gg,I+j*2+1,none⟩=some (.int .i64 (tB g j))):=fun w' h=>⟨cB h c0,cB h c1,cB h p0,cB h p1⟩;have HS:=(show Hid _ from xC f g (k:=k) V);have v2:=CA x8 x9 x7 V;have y5:=pK f g B (k*B+j);clear c0 c1 p0 p1;generalize tA f k=X at*;generalize tB f k=Y at*;generalize tA g j=X' at *;generalize tB g j=Y' at *;generalize k*B+j=kj at*;generalize gV f g B kj=L at*;have w5:((j:Int)<(B:Int)):=by omega
     have M:Hid (aW wr.drew w.heap.size u5 L):=s;have a2:B3 w.heap.size w wr.drew:=O.drew;have hL:L.length<=64:=by omega
     clear s y5;go_wp2_with fail
     go_region_held3 (fun w'=>w'.cell? ⟨gf,off+k*2,none⟩=some (.int .i64 X)/\w'.cell? ⟨gf,off+k*2+1,none⟩=some (.int .i64 Y)/\w'.cell? ⟨gg,I+j*2,none⟩=some (.int .i64 X')/\w'.cell? ⟨gg,I+j*2+1,none⟩=some (.int .i64 Y'))
      (first|exact y2.out _ (by with_reducible assumption)|exact y2.out _ (aG (by with_reducible assumption) _))
      (first
       | (go_at_call 130;refine (m6 _ _ _ _ _).mono ?_;rintro e wj ⟨rfl,y1⟩;have y0:B3 w.heap.size w wj:=aH (by with_reducible assumption) y1;have x6:=bJ M.out y1;have w6:=y0.size)
       | (refine step_append_lies _ (by rfl) _ _ _ (by rfl) w.heap.size 32 i0 _ 2 16 wH hi z5 z4 z3 rfl (by omega) u5 L.length (jG L) (by rfl) (x6.alloc _) ⟨wj.heap.size,0,none⟩ 1 1 [.int .i64 (iE X Y X' Y'),.int .i64 (iF X Y X' Y')] (by rfl) (by rfl) (vS _ _ _ _) (mV _ _) (by omega) (by unfold maxLen;omega) (by omega) (by simp;omega) (wj.heap.size+1) (by simp) ?_;intro g3 v3 w3 x1 x2 a3 w8;have z8:B3 w.heap.size w w3:=(aG y0 _).grown x2 (by simp;omega) (i7 x6)))
     go_wp2_with fail;go_roundw
     case rel=>
      refine⟨j+1,by omega,by go_num,?_,z8⟩;rw[HS.out]
      show w3.ownsRow _ _ _ _ _ _
      rw[iM];simpa using x1
     case measure=>simp[intOf];omega
    ·obtain rfl:j=B:=by omega
     have M:=(show Hid _ from s);clear s;go_wp2_with fail;go_roundw
     case rel=>exact⟨k+1,by omega,by go_num,by rw[mJ];exact M.out,O⟩
     case measure=>simp[intOf];omega
  ·obtain rfl:k=U:=by omega
   have x5:=aW.ts M.out (by rw[pK];have:=mF hk x8;have:=mF x9 (sH 8);omega);rw[<- HJ.out]at x5;have y4:=O.size;clear M;go_wp2_with fail;refine (tF _ _ _ x5).mono ?_;rintro e w4 ⟨o4,rfl,T,z7⟩;have O4:=(show Hid _ from T);clear T;go_wp2_with fail;go_ret;refine⟨_,rfl,?_,aH O z7⟩;rw[Z.out];exact bQ O4.out y4
theorem Dq (v v':BK)(f g:LI)(w:EJ)(h:Ts w v f)(h':Ts w v' g):
  E0 sI 33 #[v,v'] w fun e w'=>∃o:BK,e=.returned o/\aW w' w.heap.size o (eO f g)/\B3 w.heap.size w w':=by
 obtain⟨i0,hi,z6,z5,z4⟩:=info_parts mW;go_enter Tryz.func33,Tryz.ntmps33;go_wp2_with fail;cases hf:cC f
 ·have HK:Hid (eO f g=[]):=Em hf;refine (jN hf h).mono ?_;rintro e w1 ⟨rfl,H⟩;go_wp2_with fail;go_ret;refine⟨_,rfl,?_,H⟩;rw[HK.out];exact⟨rfl,.inl ⟨rfl,rfl⟩⟩
 refine (jN hf h).mono ?_;rintro e w1 ⟨rfl,H⟩;have T:=h'.keep H;cases hg:cC g
 ·have HK:Hid (eO f g=[]):=AR hg;go_wp2_with fail;refine (jN hg T).mono ?_;rintro e w2 ⟨rfl,B⟩;have J:=aH H B;go_wp2_with fail;go_ret;refine⟨_,rfl,?_,J⟩;rw[HK.out];exact⟨rfl,.inl ⟨rfl,rfl⟩⟩
 have HK:Hid (eO f g=cK (mT f g)):=AF hf hg;have HJ:Hid (mT f g=gV f g g.length (f.length*g.length)):=rfl;have x8:=lB hf;have x7:=lB hg;go_wp2_with fail;refine (jN hg T).mono ?_;rintro e w2 ⟨rfl,B⟩;have J:=aH H B;clear H B T hf hg;obtain⟨a,b2,rfl,hc,hm,hn,I⟩:=h;obtain⟨a',a0,rfl,b1,z7,a6,G⟩:=h';unfold maxLen at hm z7;have HC:=(show Hid _ from I);have v3:=(show Hid _ from G);clear I G;generalize f.length=nf at*;generalize g.length=s at*;go_wp2_with fail
 go_loopw [5,20] (fun o i wr=>∃k:Nat,k<=nf/\i=.int .i64 k/\aW wr w.heap.size o (gV f g s (k*s))/\B3 w.heap.size w wr) (fun _ i _=>nf-(intOf i).toNat)
 case atStart=>exact⟨0,by omega,rfl,by rw[sE];exact⟨rfl,.inl ⟨rfl,rfl⟩⟩,J⟩
 case round=>
  obtain⟨k,hk,rfl,A,D⟩:=hrel;have F:=(show Hid _ from A);clear A
  by_cases x6:k<nf
  ·obtain⟨gf,off,rfl,b0,c0,c1⟩:=HC.out k x6;have d0:=cB D c0;have d1:=cB D c1;have v2:Hid (∀j,j<s->gV f g s (k*s+(j+1))=gV f g s (k*s+j)++[(iE (tA f k) (tB f k) (tA g j) (tB g j),iF (tA f k) (tB f k) (tA g j) (tB g j))]):=fun j hj=>xC f g hj;clear c0 c1;generalize tA f k=X at*;generalize tB f k=Y at*;have y4:Hid (∀m,u5.ownBlock=some m->m≠wr.heap.size):=fun m hm=>by have:=DE F.out m hm;omega
   have Q:=Bk.new (w:=wr) #[.int .i64 X,.int .i64 Y] 32 rfl;have x9:=aG D (.cells #[.int .i64 X,.int .i64 Y] 32);have y3:=(show Hid _ from bJ F.out (aG (Md _ wr) (.cells #[.int .i64 X,.int .i64 Y] 32)));clear F;go_wp2_with fail;clear d0 d1;generalize (wr.alloc (.cells #[.int .i64 X,.int .i64 Y] 32))=ws at*;generalize wr.heap.size=O at*
   go_loopw [5,26] (fun o i wq=>∃j:Nat,j<=s/\i=.int .i64 j/\aW wq w.heap.size o (gV f g s (k*s+j))/\(∀m,o.ownBlock=some m->m≠O)/\Bk wq O #[.int .i64 X,.int .i64 Y] 32/\B3 w.heap.size w wq) (fun _ i _=>s-(intOf i).toNat)
   case atStart=>exact⟨0,by omega,rfl,y3.out,y4.out,Q,x9⟩
   case round=>
    clear y3 y4 Q x9;obtain⟨j,hj,rfl,A,V,Q,D⟩:=hrel;have x5:=(show Hid _ from V);clear V
    by_cases W:j<s
    ·obtain⟨gg,v7,rfl,a8,p0,p1⟩:=v3.out j W;have e0:=cB D p0;have e1:=cB D p1;have HS:=(show Hid _ from v2.out j W);have w7:=CA x7 x8 x6 W;have y9:=pK f g s (k*s+j);clear p0 p1;generalize tA g j=S at *;generalize tB g j=R at *;generalize k*s+j=kj at*;generalize gV f g s kj=L at*;have hL:L.length<=64:=by omega
     have F:=(show Hid _ from bJ A (aG (Md _ wr) (.cells #[.int .i64 S,.int .i64 R] 32)));have h9:=Q.alloc (.cells #[.int .i64 S,.int .i64 R] 32);have y1:=Bk.new (w:=wr) #[.int .i64 S,.int .i64 R] 32 rfl;have B:=aG D (.cells #[.int .i64 S,.int .i64 R] 32);have v9:=Q.lt;obtain⟨s0,s1,_,_⟩:=h9.two;obtain⟨t0,t1,_,_⟩:=y1.two;clear A y9 Q;go_wp2_with fail;refine (rP _ _ _ _ _).mono ?_;rintro e wj ⟨rfl,Z⟩;have x4:=bJ F.out Z;have y0:=aH B Z;have y2:=h9.keep Z;have a5:=y0.size;have w5:=y2.lt;clear F B h9 y1 s0 s1 t0 t1 e0 e1 D
     go_wp2_with (at_builtin;refine wpList_append_lies _ rfl _ _ 27 rfl w.heap.size 32 i0 (.agg #[.int .i64 0,.int .i64 0]) 2 16 wH hi z6 z5 z4 rfl (by decide) _ _ _ rfl (x4.alloc _) ⟨wj.heap.size,0,none⟩ 1 1 [.int .i64 (iE X Y S R),.int .i64 (iF X Y S R)] rfl rfl (vS _ _ _ _) (mV _ _) (by omega) (by unfold maxLen;omega) (by omega) (by simp;omega) (wj.heap.size+1) (by simp) ?_;intro g3 z0 w3 x2 M N a7)
     have u0:B3 w.heap.size w w3:=(aG y0 _).grown M (by simp;omega) (i7 x4);have v1:Bk w3 O #[.int .i64 X,.int .i64 Y] 32:=by
      unfold Bk;rw[M.block O (by simp;omega) (fun e=>x5.out O e.symm rfl)];exact y2.alloc _
     have y8:Hid (∀m,(BK.slice (some ⟨g3,0,none⟩) (L.length+1) z0).ownBlock=some m->m≠O):=by
      intro m hm;have e:g3=m:=by simpa[BK.ownBlock]using hm
      subst e
      rcases N with N|N
      ·exact x5.out _ N
      ·omega
     go_roundw
     case rel=>
      refine⟨j+1,by omega,by go_num,?_,y8.out,v1,u0⟩;rw[HS.out]
      show w3.ownsRow _ _ _ _ _ _
      rw[iM];simpa using x2
     case measure=>simp[intOf];omega
    ·obtain rfl:j=s:=by omega
     have F:=(show Hid _ from A);clear A;go_wp2_with fail;go_roundw
     case rel=>exact⟨k+1,by omega,by go_num,by rw[mJ];exact F.out,D⟩
     case measure=>simp[intOf];omega
  ·obtain rfl:k=nf:=by omega
   have x3:=aW.ts F.out (by rw[pK];have:=mF hk x7;have:=mF x8 (sH 8);omega);rw[<- HJ.out]at x3;have y7:=D.size;clear F;go_wp2_with fail;refine (sW _ _ _ x3).mono ?_;rintro e w4 ⟨o4,rfl,U,z9⟩;have O4:=(show Hid _ from U);clear U;go_wp2_with fail;go_ret;refine⟨_,rfl,?_,aH D z9⟩;rw[HK.out];exact bQ O4.out y7
end Go.Proofs.YtbdpcngcbnoioaaGreatDoor
