import Derived.Test.YtbdpcngcbnoioaaGreatDoorGq3
set_option maxRecDepth 100000
set_option maxHeartbeats 16000000
namespace Go.Proofs.YtbdpcngcbnoioaaGreatDoor
open Go.RowKit
open _root_.List renaming take_length->fM,length_append->fQ,length_take->gD,mem_map->gM,mem_flatMap->gQ,mem_append->gX,getElem?_eq_getElem->iM,mem_of_mem_take->iP,mem_of_getElem?->jB,append_assoc->jO,mem_filter->mO,length_map->nA
open Go.RowKit renaming Below->nB
open Go.Value renaming slice->nT
open Go renaming Value->nX,World->oU,Calls->oW,wpQuiet_nil->pU
open Go.RowKit.Below renaming refl->qV
open _root_.Nat renaming le_refl->sD,le_trans->tJ
variable {k kind:Int}
theorem Ak (kind:Int){s:List It}(h:aX s=true):(dE kind s).length<=400:=dF (p8 kind h)
theorem Bv (kind:Int)(l:List Rw)(t:Int×Int):(fS kind l t).length<=1600:=by
 unfold fS;refine tJ (gP _ _) ?_;have b:=fun x y=>Ak kind (cO l x y);have A:=b t.1 t.2;have s:=b (t.1-1) t.2;have g:=b t.1 (t.2-1);have a:=b (t.1-1) (t.2-1);simp only[fQ,dY,nA];omega
theorem OS {l:List Rw}{t:Int×Int}{r:It}(hr:r∈fS kind l t): -2<=r.2/\r.2<=2/\jK r.1:=by
 have h1:aK (fS kind l t) r.1=r.2:=sL cQ (kN cQ _) hr;have h2:=zC kind l t r.1;rw[h1]at h2;have b:=fun x y=>Le kind (cO l x y) r.1;have G:=b t.1 t.2;have D:=b (t.1-1) t.2;have B:=b t.1 (t.2-1);have A:=b (t.1-1) (t.2-1);refine⟨by omega,by omega,?_⟩;obtain⟨p,hp,e⟩:=qM hr;have g:∀x y,∀p∈dE kind (aM l x y),jK p.1:=fun x y p hp=>mN (p8 kind (cO l x y)) p hp;have:jK p.1:=by
  simp only[gX]at hp
  rcases hp with ((hp|hp)|hp)|hp
  ·exact g _ _ p hp
  ·obtain⟨s,a,rfl⟩:=gM.1 hp;exact g _ _ s a
  ·obtain⟨s,a,rfl⟩:=gM.1 hp;exact g _ _ s a
  ·exact g _ _ p hp
 rw[e]at this;exact this
theorem Cz (kind:Int)(l:List Rw)(ts:LI)(t:Int×Int):eW kind l (ts++[t])=eW kind l ts++iD t (fS kind l t):=by
 unfold eW iD;rw[List.flatMap_append];simp
theorem sS (kind:Int)(l:List Rw)(ts:LI):(eW kind l ts).length<=1600*ts.length:=by
 unfold eW;refine Oa (fun t=>?_) ts;rw[nA];exact Bv kind l t
theorem wE {l:List Rw}{ts:LI}(B:∀t∈ts,bM t.1 t.2=true){r:Rw}(hr:r∈eW kind l ts):dG r=true /\ -2<=r.2/\r.2<=2:=by
 obtain⟨h1,h2,_⟩:=OL B hr;unfold eW at hr;obtain⟨t,D,hr⟩:=gQ.1 hr;obtain⟨q,hq,rfl⟩:=gM.1 hr;obtain⟨d1,d2,_⟩:=OS hq;obtain⟨s,g,a⟩:=KX h1 h2;have A:cG q.2 (-99999) 99999=true:=by simp[cG];omega
 refine⟨?_,d1,d2⟩;simp only at s g a;simp only[dG,s,g,a,A,Bool.and_self]
theorem Ec {l:List Rw}{n:Nat}(h0:0<=k)(h3:k<=3)(g:∀r∈l,r.1.1.1=k){r:Rw}(hr:r∈eW kind l ((jT l).take n)):r.1.1.1=k:=by
 refine ON (kind:=kind) (l:=l) h0 h3 g ?_;unfold fD;unfold eW at hr ⊢;obtain⟨t,a,hr⟩:=gQ.1 hr;exact gQ.2 ⟨t,iP a,hr⟩
theorem Hm {l:List Rw}{n:Nat}{t:Int×Int}(h:t∈(jT l).take n):bM t.1 t.2=true:=Ns l t (iP h)
theorem LJ {l:List Rw}:∀r∈aY l k,r.1.1.1=k:=fun r hr=>by simpa using (mO.1 hr).2
theorem KV {l:List Rw}(s:∀r∈l,r.1.1.1=k)(x y:Int):∀p∈aM l x y,p.1.1=k:=fun p hp=>by
 unfold aM at hp;split at hp
 ·obtain⟨q,hq,e⟩:=qM hp;unfold c9 at hq;obtain⟨g,a,rfl⟩:=gM.1 hq;rw[<- e];exact s g (mO.1 a).1
 ·simp at hp
open Go.Shelf
theorem Ar {m:List It}(h:∀r∈m,r.2=1):aJ m<=m.length:=by
 have:=mP (l:=m) (c:=1) (fun r hr=>by rw[h r hr];omega);omega
theorem MH {l:List Rw}{ts:LI}(a:∀t∈ts,bM t.1 t.2=true):aJ (eW kind l ts)<=2*(eW kind l ts).length:=
 mP fun _ hr=>(wE a hr).2
theorem Kt {w w1:oU}{B:Nat}{v:nX}{l:LI}{a:Nat}(h:bW w B v l)(hg:w.grownBy w1 (some a))(s:a<B):bW w1 B v l:=
 fB h fun q e=>hg.block q (QE h q e) (fun g=>by cases g;have:=kK h _ e;omega)
theorem Ip (v:nX)(l:List Rw)(key kind:Int)(w:oU)(h:Rs w v l)(hk:aZ l=true)(h0:0<=key)(h3:key<=3)
  (hf:∀(u:nX)(s:List It)(W:oU),Is W u s->aX s=true->oW Tryz.prog 256 #[u,.int .i64 key,.int .i64 kind] W fun e Z=>∃o:nX,e=.returned o/\aQ Z W.heap.size o (kP kind s key)/\nB W.heap.size W Z):
  oW Tryz.prog 230 #[v,.int .i64 key,.int .i64 kind] w fun e Z=>∃o:nX,e=.returned o/\aC Z w.heap.size o (fD kind (aY l key))/\nB w.heap.size w Z:=by
 have HH:Hid (Rs w v l):=h;have hO:=i6 hk;have HF:=(show Hid _ from hf);obtain⟨a,xU,rfl,hc,hm,hn,z5⟩:=Rs.open h;unfold maxLen at hm;have HC:=(show Hid _ from z5);have HT:Hid (sH l key=jT (aY l key)):=by show _=_;unfold sH;rw[if_pos hk]
 have w6:Hid (aZ (aY l key)=true/\∀r∈aY l key,r.1.1.1=key):=⟨xI hk key,LJ⟩;have h9:Hid (0<=key/\key<=3):=⟨h0,h3⟩;have oE:=lT w rfl;have d8:=aH (qV _ w) (.cells #[] 55);clear z5 h hf h0 h3;go_enter Tryz.func230,Tryz.ntmps230;go_wp2_with fail
 go_loopw [7,8] (fun o b wr=>∃k:Nat,k<=l.length/\b=.int .i64 k/\aC wr w.heap.size o (aY (l.take k) key)/\nB w.heap.size w wr) (fun _ b _=>l.length-(intOf b).toNat)
 case atStart=>exact⟨0,by omega,rfl,oE,d8⟩
 case round=>
  clear oE d8;obtain⟨k,hP,rfl,G,hb⟩:=hrel;have O1:Hid (aC wr w.heap.size u7 (aY (l.take k) key)):=G;have v2:(aY (l.take k) key).length<=400:=tJ (rG _ _) (by rw[gD];omega);have v1:=hb.size;clear G
  by_cases z0:k<l.length
  ·obtain⟨g,off,K,V,A,B,D,rfl,hg,hr,c0,c1,c2,c3,c4⟩:=HC.out k z0;have HR:=(show Hid _ from hr);have q0:=cB hb c0;have q1:=cB hb c1;have q2:=cB hb c2;have q3:=cB hb c3;have q4:=cB hb c4;have ii:((k:Int)<(l.length:Int)):=by omega
   clear c0 c1 c2 c3 c4 hr
   by_cases hK:K=key
   ·have HZ:Hid (aY (l.take (k+1)) key=aY (l.take k) key++[(((K,V),(A,B)),D)]):=yV HR.out hK;subst hK;have O2:aC wr w.heap.size u7 (aY (l.take k) K):=O1.out;generalize aY (l.take k) K=l1 at*
    go_wp2_with (at_builtin;refine kR _ rfl _ _ rfl w.heap.size _ _ rfl (O2.alloc _) _ _ _ _ _ _ rfl (Bk.new _ _ (by simp)) (by omega) (by simp;omega) ?_;intro g3 t5 w3 x5 R d3)
    have i8:nB w.heap.size w w3:=Below.aU (aH hb _) R (by simp;omega) (kK O1.out);go_roundw
    case rel=>exact⟨k+1,by omega,by go_num,by rw[HZ.out];exact x5,i8⟩
    case measure=>simp[intOf];omega
   ·have HZ:Hid (aY (l.take (k+1)) key=aY (l.take k) key):=Ai HR.out hK;have nx:(K==key)=false:=beq_eq_false_iff_ne.2 hK;go_wp2_with fail;go_roundw
    case rel=>exact⟨k+1,by omega,by go_num,by rw[HZ.out];exact O1.out,hb⟩
    case measure=>simp[intOf];omega
  ·obtain rfl:k=l.length:=by omega
   have OM:aC wr w.heap.size u7 (aY l key):=by have:=O1.out;rw[fM]at this;exact this
   have hN:(aY l key).length<=400:=by rw[fM]at v2;exact v2
   have RM:Rs wr u7 (aY l key):=aC.rs OM (by omega);obtain⟨am,e4,rfl,-⟩:=Rs.open RM;have v5:nB wr.heap.size wr (wr.alloc (.cells #[] 55)):=aH (qV _ _) _;have b8:=lT wr rfl;have f4:=(show Hid (Rs wr (.slice am (aY l key).length e4) (aY l key)) from RM);clear O1 OM RM v2 HC;go_wp2_with fail;refine (zU _ l key _ (HH.out.keep (aG hb v5))).mono ?_;rintro e W0 ⟨hH,rfl,y3,w4⟩;rw[HT.out]at y3;obtain⟨aT,cT,rfl⟩:=sA y3;have q5:=nJ (aY l key);have g8:=w4.size;have g9:(wr.alloc (.cells #[] 55)).heap.size=wr.heap.size+1:=by simp
   have m1:Hid (∀W,W0.grownBy W (some wr.heap.size)->Rs W (.slice am (aY l key).length e4) (aY l key)/\Ts W (.slice aT (jT (aY l key)).length cT) (jT (aY l key))/\nB w.heap.size w W):=fun W hg=>by
    have h1:nB wr.heap.size wr W:=Below.aU (aG v5 w4) hg (by omega) (fun k e=>by cases e;exact sD _);exact⟨f4.out.keep h1,bW.ts (Kt y3 hg (by omega)) (by omega),hb.trans (h1.mono v1)⟩
   have f8:Hid (aC W0 wr.heap.size (.slice (some ⟨wr.heap.size,0,none⟩) 0 0) []):=cC b8 w4;have p5:wr.heap.size+1<=W0.heap.size:=by omega
   clear y3 w4 b8 v5 f4 g9 g8 HH hb;generalize hM:aY l key=M at*;have l9:=(show Hid (aY l key=M) from hM);clear hM;have l7:=(show Hid (w.heap.size<=wr.heap.size) from v1);clear v1;generalize wr.heap.size=I at*;go_wp2_with fail
   go_loopw [9,11] (fun o b wq=>∃i:Nat,i<=(jT M).length/\b=.int .i64 i/\aC wq I o (eW kind M ((jT M).take i))/\(∀q,o.ownBlock=some q->q=I\/W0.heap.size<=q)/\W0.grownBy wq (some I)) (fun _ b _=>(jT M).length-(intOf b).toNat)
   case atStart=>exact⟨0,by omega,rfl,f8.out,fun q e=> .inl (by cases e;rfl),⟨rfl,rfl,rfl,sD _,fun _ _ _=>rfl⟩⟩
   case round=>
    clear f8;obtain⟨i,hi,rfl,G,hq,hg⟩:=hrel;obtain⟨H,j1⟩:∃H,H=wr:=⟨_,rfl⟩;subst j1;obtain⟨RM,RT,i5⟩:=m1.out H hg;have HO:Hid (aC H I u9 (eW kind M ((jT M).take i))/\(∀q,u9.ownBlock=some q->q=I\/W0.heap.size<=q)):=⟨G,hq⟩;have HG:Hid (W0.grownBy H (some I)):=hg;have p1:=hg.size;have f6:Hid (∀t∈(jT M).take i,bM t.1 t.2=true):=fun t ht=>Hm ht;have hU:(eW kind M ((jT M).take i)).length<=102400:=by have:=sS kind M ((jT M).take i);rw[gD]at this;omega
    have e1:Rs H u9 (eW kind M ((jT M).take i)):=aC.rs G (by omega);obtain⟨ao,J,rfl,-,-,-,d7⟩:=Rs.open e1;have n5:=(show Hid _ from d7);clear G hq e1 hg d7
    by_cases z0:i<(jT M).length
    ·obtain⟨zB,xV,eT,-,-,-,d6⟩:=RT;obtain⟨g,off,eg,d5,c0,c1⟩:=d6 i z0;cases eT;cases eg;have f3:Hid ((jT M)[i]?=some (tA (jT M) i,tB (jT M) i)):=by
      show _=_
      rw[iM z0];simp[tA,tB,List.getD_eq_getElem?_getD,iM z0]
     have ii:((i:Int)<((jT M).length:Int)):=by omega
     have a9:nB H.heap.size H (H.alloc (.cells #[.int .i64 (tA (jT M) i),.int .i64 (tB (jT M) i)] 32)):=aH (qV _ _) _;have bX:Bk (H.alloc (.cells #[.int .i64 (tA (jT M) i),.int .i64 (tB (jT M) i)] 32)) H.heap.size #[.int .i64 (tA (jT M) i),.int .i64 (tB (jT M) i)] 32:=Bk.new _ _ rfl;have e5:=RM.keep a9;obtain⟨x0,x1,_,_⟩:=bX.two;clear RM d6;generalize tA (jT M) i=X at*;generalize tB (jT M) i=Y at*;go_wp2_with fail;generalize H.alloc (.cells #[.int .i64 X,.int .i64 Y] 32)=W1 at*;refine (Bg _ M X Y W1 e5).mono ?_;rintro e O ⟨o2,rfl,a4,b1⟩;have I2:=aQ.is a4 (by have:=qZ M X Y;omega);have v4:=aG a9 b1;clear a4 e5 x0 x1;go_wp2_with fail;refine (HF.out _ _ O I2 (cO M X Y)).mono ?_;rintro e W3 ⟨o3,rfl,x5,T⟩;have HS:Hid (kP kind (aM M X Y) key=dE kind (aM M X Y)):=(Al kind (cO M X Y) (KV w6.out.2 X Y) h9.out.1 h9.out.2).symm;rw[HS.out]at x5;have hJ:=Ak kind (cO M X Y);have l3:Hid (aJ (dE kind (aM M X Y))<=400):=by
      have:=Ar (m:=dE kind (aM M X Y)) (fun r hr=>uP (cO M X Y) hr)
      show _<=_;omega
     have w5:Hid (∀W,nB O.heap.size O W->nB H.heap.size H W/\Bk W H.heap.size #[.int .i64 X,.int .i64 Y] 32):=fun W hW=>⟨aG v4 hW,(bX.keep b1).keep hW⟩;have p3:=v4.size;clear I2 a9 b1 v4 bX;have f7:=(show Hid (aQ W3 O.heap.size o3 (dE kind (aM M X Y))) from x5);have g2:=(show Hid (nB O.heap.size O W3) from T);have n4:Hid (∀r∈eW kind M ((jT M).take i),r.1.1.1=key /\ -2<=r.2/\r.2<=2):=fun r hr=>⟨Ec h9.out.1 h9.out.2 w6.out.2 hr,(wE f6.out hr).2⟩;have o0:Hid (aJ (eW kind M ((jT M).take i))<=204800):=by have:=MH (kind:=kind) (l:=M) f6.out;show _<=_;omega
     have m0:Hid (∀L:List It,L=dE kind (aM M X Y)++dY (c9 (eW kind M ((jT M).take i)) X Y)->aO bJ L=fS kind M (X,Y)):=fun L hL=>F8 kind w6.out.1 f3.out fun v=>by rw[hL,eI,yQ];exact Int.sub_eq_add_neg.symm
     have f9:Hid (eW kind M ((jT M).take (i+1))=eW kind M ((jT M).take i)++iD (X,Y) (fS kind M (X,Y))):=by show _=_;rw[fK f3.out,Cz]
     clear x5 T;generalize hC:eW kind M ((jT M).take i)=C at*;generalize hS:dE kind (aM M X Y)=S at*;clear hC hS HS;go_wp2_with fail
     go_loopw [13,14] (fun o b wq=>∃k:Nat,k<=C.length/\b=.int .i64 k/\aQ wq O.heap.size o (S++dY (c9 (C.take k) X Y))/\nB O.heap.size O wq) (fun _ b _=>C.length-(intOf b).toNat)
     case atStart=>exact⟨0,by omega,rfl,by have:=f7.out;simpa[c9,dY]using this,g2.out⟩
     case round=>
      clear f7 g2;obtain⟨k,hR,rfl,G,z8⟩:=hrel;obtain⟨z7,bX⟩:=w5.out _ z8;have Q:Hid (aQ wr O.heap.size u13 (S++dY (c9 (C.take k) X Y))):=G;have p2:=z8.size;have j3:(S++dY (c9 (C.take k) X Y)).length<=200000:=by
       have:=qG (C.take k) X Y;rw[fQ,FI];rw[gD]at this;omega
      by_cases w2:k<C.length
      ·obtain⟨g,off,K,V,A,B,D,rfl,d5,hr,c0,c1,c2,c3,c4⟩:=n5.out k w2;have HR:=(show Hid _ from hr);obtain⟨rfl,d1,d2⟩:K=key /\ -2<=D/\D<=2:=n4.out _ (jB hr);have e2:∀p:eC wr,p.ww.cell? ⟨g,off+k*5+2,none⟩=some (.int .i64 A):=fun p=>cB p.below (cB z7 c2);have e3:∀p:eC wr,p.ww.cell? ⟨g,off+k*5+3,none⟩=some (.int .i64 B):=fun p=>cB p.below (cB z7 c3);have t0:=bX.de;have t1:=bX.dc;have hne:=lG wr;have ik:((k:Int)<(C.length:Int)):=by omega
       have iw:IntKind.i64.wrap (-D) = -D:=by rw[IntKind.wrap_i64];omega
       have HX:Hid (∀W,nB O.heap.size O W->W.cell? ⟨g,off+k*5+1,none⟩=some (.int .i64 V)/\W.cell? ⟨g,off+k*5+4,none⟩=some (.int .i64 D)):=fun W hW=>⟨cB (w5.out W hW).1 c1,cB (w5.out W hW).1 c4⟩;clear c0 c1 c2 c3 c4 hr G bX;cases hp:cX A B X Y
       ·have HZ:Hid (c9 (C.take (k+1)) X Y=c9 (C.take k) X Y):=ER HR.out hp;go_wp2_with fail
        (refine lF (by kernel_rfl) (by kernel_rfl) ?_;(repeat (go_big_quiet_step ((first|(go_at_call 129;exact jS (jD (by with_reducible assumption) _))))));refine pU ?_)
        intro w3 U
        replace U:=kU U
        have O3:Hid (aQ w3 O.heap.size u13 (S++dY (c9 (C.take k) X Y))):=cC Q.out U;have T:=aG z8 U;clear Q e2 e3 t0 t1 hne;go_wp2_with fail;go_roundw
        case rel=>exact⟨k+1,by omega,by go_num,by rw[HZ.out];exact O3.out,T⟩
        case measure=>simp[intOf];omega
       ·have HZ:Hid (S++dY (c9 (C.take (k+1)) X Y)=S++dY (c9 (C.take k) X Y)++[((K,V),-D)]):=by
         show _=_;rw[Br HR.out hp,J5,jO]
        go_wp2_with fail
        (refine lF (by kernel_rfl) (by kernel_rfl) ?_;(repeat (go_big_quiet_step ((first|(go_at_call 129;exact jS (jD (by with_reducible assumption) _))))));refine pU ?_)
        intro w3 U
        replace U:=kU U
        have O3:aQ w3 O.heap.size u13 (S++dY (c9 (C.take k) X Y)):=cC Q.out U;have T:=aG z8 U;have b9:=T.size;obtain⟨y1,y4⟩:=HX.out w3 T;clear Q e2 e3 t0 t1 hne;generalize S++dY (c9 (C.take k) X Y)=LL at*;go_wp2_with fail
        go_region_held3 (fun Z=>Z.cell? ⟨g,off+k*5+1,none⟩=some (.int .i64 V)/\Z.cell? ⟨g,off+k*5+4,none⟩=some (.int .i64 D))
         (first|exact HX.out _ T.drew|exact HX.out _ (sG T b9 _).drew|exact HX.out _ d9)
         (first
          | (refine JT _ (by rfl) _ _ (by rfl) O.heap.size _ LL (by rfl) ((O3.alloc _).drew) _ K V (-D) (by rfl) ((Bk.new _ _ rfl).drew) (by omega) (by simp;omega) ?_;intro g7 v6 w7 y5 R d3;have d9:nB O.heap.size O w7:=Below.aU (sG T b9 _).drew R (by simp;omega) (fun q e=>bU O3 q e)))
        go_wp2_with fail;go_roundw
        case rel=>exact⟨k+1,by omega,by go_num,by rw[HZ.out];exact y5,d9⟩
        case measure=>simp[intOf];omega
      ·obtain rfl:k=C.length:=by omega
       have hV:aJ (S++dY (c9 C X Y))<=300000:=by
        have h1:=Hb (l:=C) (x:=X) (y:=Y);have h2:=l3.out;have h3:=o0.out;rw[cV,IQ];omega
       rw[fM]at j3;have IL:Is wr u13 (S++dY (c9 C X Y)):=by have:=Q.out;rw[fM]at this;exact aQ.is this (by omega)
       have n3:Hid (aO bJ (S++dY (c9 C X Y))=fS kind M (X,Y)):=m0.out _ rfl;obtain⟨Wk,i9⟩:∃Wk,Wk=wr:=⟨_,rfl⟩;subst i9;clear Q G;go_wp2_with fail;refine (A7 _ (S++dY (c9 C X Y)) _ IL (by omega) (by omega)).mono ?_;rw[n3.out];rintro e W5 ⟨o5,rfl,x4,b0⟩;have hT:=Bv kind M (X,Y);have I5:=aQ.is x4 (by omega);obtain⟨a5,k0,rfl,-,-,-,y2⟩:=Is.open I5;have zD:=(show Hid _ from y2);have v3:=aG z7 b0;have g6:=(show Hid (Bk W5 H.heap.size #[.int .i64 X,.int .i64 Y] 32) from bX.keep b0);have f5:Hid (aC W5 I (.slice ao C.length J) C):=cC HO.out.1 v3;have HQ:=(show Hid (∀q,(nT ao C.length J).ownBlock=some q->q=I\/W0.heap.size<=q) from HO.out.2);have g0:Hid (∀q,(nT ao C.length J).ownBlock=some q->q<H.heap.size):=fun q e=>oT HO.out.1 q e;have b4:Hid (W0.grownBy W5 (some I)):=HG.out.andThen (wK v3 none) (fun j e=>by cases e);have p9:I<=W5.heap.size:=by have:=b4.out.size;omega
       have g1:Hid (∀W,W5.grownBy W (nT ao C.length J).ownBlock->Is W (.slice a5 (fS kind M (X,Y)).length k0) (fS kind M (X,Y))/\Bk W H.heap.size #[.int .i64 X,.int .i64 Y] 32):=fun W hW=>by
        refine⟨aQ.is (fB x4 fun q e=>hW.block q (oT x4 q e) (fun e'=>?_)) (by omega),Bk.aU g6.out hW (fun q e=>?_)⟩
        ·have h1:=bU x4 q e;have h2:=g0.out q e'.symm;have h3:=z7.size;omega
        ·have h2:=g0.out q e;omega
       clear IL x4 I5 y2 b0 v3 bX z7 z8 w5 g6;generalize hX:fS kind M (X,Y)=DD at*;have m5:Hid (∀r∈DD,r.1.1=key):=fun r hr=>by
        have:((r.1,(X,Y)),r.2)∈eW kind M ((jT M).take (i+1)):=by
         rw[f9.out,gX];exact .inr (gM.2 ⟨r,hr,rfl⟩)
        exact Ec h9.out.1 h9.out.2 w6.out.2 this
       go_wp2_with fail
       go_loopw [9,15] (fun o b wq=>∃k:Nat,k<=DD.length/\b=.int .i64 k/\aC wq I o (C++iD (X,Y) (DD.take k))/\(∀q,o.ownBlock=some q->(nT ao C.length J).ownBlock=some q\/W5.heap.size<=q)/\W5.grownBy wq (nT ao C.length J).ownBlock) (fun _ b _=>DD.length-(intOf b).toNat)
       case atStart=>exact⟨0,by omega,rfl,by have:=f5.out;simpa[iD]using this,fun q e=> .inl e,⟨rfl,rfl,rfl,sD _,fun _ _ _=>rfl⟩⟩
       case round=>
        clear f5;obtain⟨k,hQ,rfl,G,hq,hg⟩:=hrel;have Q:Hid (aC wr I u9 (C++iD (X,Y) (DD.take k))):=G;have v0:Hid (∀q,u9.ownBlock=some q->(nT ao C.length J).ownBlock=some q\/W5.heap.size<=q):=hq;have w8:Hid (W5.grownBy wr (nT ao C.length J).ownBlock):=hg;have hI:=hg.size;obtain⟨I6,g5⟩:=g1.out wr hg;clear G hq hg
        by_cases w2:k<DD.length
        ·obtain⟨a6,xE,e6,-,-,-,y0⟩:=Is.open I6;obtain⟨g,off,K,V,D,e7,d5,hr,c0,c1,c2⟩:=y0 k w2;cases e6;cases e7;have hK:K=key:=m5.out _ (jB hr);subst hK;have HR:Hid (C++iD (X,Y) (DD.take (k+1))=C++iD (X,Y) (DD.take k)++[(((K,V),(X,Y)),D)]):=by show _=_;rw[Bm hr,jO]
         have ik:((k:Int)<(DD.length:Int)):=by omega
         have r0:(C++iD (X,Y) (DD.take k)).length<=200000:=by rw[fQ,uM,gD];omega
         have HX:Hid (∀W,wr.grownBy W u9.ownBlock->W.cell? ⟨g,off+k*3+1,none⟩=some (.int .i64 V)/\W.cell? ⟨g,off+k*3+2,none⟩=some (.int .i64 D)/\W.cell? ⟨H.heap.size,0,none⟩=some (.int .i64 X)/\W.cell? ⟨H.heap.size,1,none⟩=some (.int .i64 Y)):=fun W hW=>by
          obtain⟨I7,g4⟩:=g1.out W (w8.out.andThen hW (fun j e=>(v0.out j e).symm));obtain⟨a7,hY,e8,-,-,-,a0⟩:=Is.open I7;obtain⟨g',o6,K',V',D',e9,_,d0,f0,f1,f2⟩:=a0 k w2;cases e8;cases e9;rw[hr]at d0;cases d0;exact⟨f1,f2,g4.two.1,g4.two.2.1⟩
         have O6:aC wr I u9 (C++iD (X,Y) (DD.take k)):=Q.out;have p4:I<=wr.heap.size:=by omega
         obtain⟨z1,z2,z3,z4⟩:=HX.out wr ⟨rfl,rfl,rfl,sD _,fun _ _ _=>rfl⟩;clear hr c0 c1 c2 y0 I6 g5 Q;generalize C++iD (X,Y) (DD.take k)=LL at*;go_wp2_with fail
         go_region_held3 (fun Z=>Z.cell? ⟨g,off+k*3+1,none⟩=some (.int .i64 V)/\Z.cell? ⟨g,off+k*3+2,none⟩=some (.int .i64 D)/\Z.cell? ⟨H.heap.size,0,none⟩=some (.int .i64 X)/\Z.cell? ⟨H.heap.size,1,none⟩=some (.int .i64 Y))
          (first|exact HX.out _ (wK (qV _ _).drew _)|exact HX.out _ (wK (aH (qV _ _) _).drew _)|exact HX.out _ a8)
          (first
           | (refine QK _ (by rfl) _ _ (by rfl) I _ LL (by rfl) ((O6.alloc _).drew) _ K V X Y D (by rfl) ((Bk.new _ _ rfl).drew) (by omega) (by simp;omega) ?_;intro g7 v6 w7 y5 R d4 d3;have a8:wr.grownBy w7 u9.ownBlock:=(wK (aH (qV _ wr) _).drew _).andThen R (fun j e=> .inr e)))
         have l5:Hid (∀q,(nT (some ⟨g7,0,none⟩) (LL.length+1) v6).ownBlock=some q->(nT ao C.length J).ownBlock=some q\/W5.heap.size<=q):=fun q e=>by
          cases e
          rcases d4 with e|e
          ·exact v0.out _ e
          ·right
           have h1:g7=wr.heap.size+1:=by rw[e];simp
           show W5.heap.size<=g7
           omega
         have m3:Hid (W5.grownBy w7 (nT ao C.length J).ownBlock):=w8.out.andThen a8 (fun j e=>(v0.out j e).symm);have l8:Hid (aC w7 I (.slice (some ⟨g7,0,none⟩) (LL.length+1) v6) (LL++[(((K,V),(X,Y)),D)])):=y5;clear d4 R a8 y5;go_wp2_with fail;go_roundw
         case rel=>exact⟨k+1,by omega,by go_num,by rw[HR.out];exact l8.out,l5.out,m3.out⟩
         case measure=>simp[intOf];omega
        ·obtain rfl:k=DD.length:=by omega
         have b5:Hid (aC wr I u9 (eW kind M ((jT M).take (i+1)))/\(∀q,u9.ownBlock=some q->q=I\/W0.heap.size<=q)/\W0.grownBy wr (some I)):=by
          refine⟨?_,fun q e=>?_,b4.out.andThen w8.out (fun j e=>?_)⟩
          ·have:=Q.out;rw[fM]at this;rw[f9.out];exact this
          ·rcases v0.out q e with e'|e'
           ·exact HQ.out q e'
           ·right;have:=b4.out.size;omega
          ·rcases HQ.out j e with e'|e'
           ·right;rw[e']
           ·exact .inl e'
         clear Q v0 w8 I6 g5;go_wp2_with fail;go_roundw
         case rel=>exact⟨i+1,by omega,by go_num,b5.out.1,b5.out.2.1,b5.out.2.2⟩
         case measure=>simp[intOf];omega
    ·obtain rfl:i=(jT M).length:=by omega
     have m4:Hid (aC H I (.slice ao (eW kind M ((jT M).take (jT M).length)).length J) (fD kind M)):=by
      have:=HO.out.1;rw[fM]at this ⊢;exact this
     clear RM RT;go_wp2_with fail;go_ret;exact⟨_,rfl,by rw[l9.out];exact cW m4.out l7.out,i5⟩
def kG (f:Int->List Rw):Nat->List Rw
 | 0=>[]
 | k+1=>kG f k++f k
theorem EJ {f:Int->List Rw}{c:Nat}(h:∀k,(f k).length<=c)(k:Nat):(kG f k).length<=k*c:=by
 induction k with
 | zero=>simp[kG]
 | succ k ih=>have:=h k;simp only[kG,fQ,Nat.add_mul];omega
theorem Cp (kind:Int)(a:List Rw):kG (fun k=>fD kind (aY a k)) 4=fT kind a:=by simp[kG,fT]
theorem sP (kind:Int)(l:List Rw):(fD kind l).length<=102400:=by
 unfold fD;have h1:=sS kind l (jT l);have h2:=nJ l;omega
theorem tV (kind:Int)(a:List Rw):(fT kind a).length<=409600:=by
 have h:=fun k=>sP kind (aY a k);have h0:=h 0;have h1:=h 1;have h2:=h 2;have h3:=h 3;unfold fT;simp only[fQ];omega
theorem DI {a:List Rw}{r:Rw}(hr:r∈fT kind a):dG r=true /\ -2<=r.2/\r.2<=2:=by
 unfold fT at hr;simp only[gX]at hr
 rcases hr with ((hr|hr)|hr)|hr<;>exact wE (Ns _) hr
theorem DH (kind:Int)(a:List Rw):aJ (fT kind a)<=819200:=by
 have h1:=mP (l:=fT kind a) (c:=2) (fun _ hr=>(DI hr).2);have h2:=tV kind a;omega
theorem MT {a:List Rw}:∀r∈fT kind a,spOk r.1:=fun _ hr=>zK (DI hr).1
theorem Iv (h:cG kind 1 3=true)(key:Int)(u:nX)(s:List It)(W:oU)(hs:Is W u s)(a:aX s=true):
  oW Tryz.prog 256 #[u,.int .i64 key,.int .i64 kind] W fun e g=>∃o:nX,e=.returned o/\aQ g W.heap.size o (kP kind s key)/\nB W.heap.size W g:=by
 have A:kind=1\/kind=2\/kind=3:=by simp[cG]at h;omega
 rcases A with rfl|rfl|rfl
 ·exact Oi u s key W hs a
 ·exact Oj u s key W hs a
 ·exact Ok u s key W hs a
theorem Iq (v:nX)(l:List Rw)(kind:Int)(w:oU)(h:Rs w v l)(hk:aZ l=true)(hw:cG kind 1 3=true):
  oW Tryz.prog 190 #[v,.int .i64 kind] w fun e a=>∃o:nX,e=.returned o/\aC a w.heap.size o (aO aW (fT kind l))/\nB w.heap.size w a:=by
 have HI:Hid (Rs w v l):=h;have HF:Hid (∀(key:Int)(W:oU),0<=key->key<=3->Rs W v l->oW Tryz.prog 230 #[v,.int .i64 key,.int .i64 kind] W fun e a=>∃o:nX,e=.returned o/\aC a W.heap.size o (fD kind (aY l key))/\nB W.heap.size W a):=fun key W h0 h3 hR=>Ip v l key kind W hR hk h0 h3 (fun u s W'=>Iv hw key u s W');have HL:Hid (∀k,(kG (fun k=>fD kind (aY l k)) k).length<=k*102400):=EJ fun k=>sP kind (aY l k);have V:Hid (∀k,(fD kind (aY l k)).length<=102400):=fun k=>sP kind (aY l k);have H4:Hid (kG (fun k=>fD kind (aY l k)) 4=fT kind l):=Cp kind l;have hfl:=tV kind l;have y6:=DH kind l;have M:=lT w rfl;have J:=aH (qV _ w) (.cells #[] 55);clear h;go_enter Tryz.func190,Tryz.ntmps190;go_wp2_with fail
 go_loopw [5,6] (fun o i wr=>∃k:Nat,k<=4/\i=.int .i64 k/\aC wr w.heap.size o (kG (fun k=>fD kind (aY l k)) k)/\nB w.heap.size w wr) (fun _ i _=>4-(intOf i).toNat)
 case atStart=>exact⟨0,by omega,rfl,M,J⟩
 case round=>
  clear M J;obtain⟨k,y5,rfl,B,H⟩:=hrel;have I:Hid (aC wr w.heap.size u5 (kG (fun k=>fD kind (aY l k)) k)):=B;clear B;have Q:=H.size
  by_cases y4:k<4
  ·have ik:(k:Int)<4:=by omega
   go_wp2_with fail;refine (HF.out k _ (by omega) (by omega) (HI.out.keep H)).mono ?_;rintro e w2 ⟨o2,rfl,A,G⟩;have h1:=HL.out k;have h2:=V.out k;have O:=aC.rs A (by omega);have D:=aG H G;have x2:=D.size;have U:aC w2 w.heap.size u5 (kG (fun k=>fD kind (aY l k)) k):=cC I.out G;have HZ:Hid (kG (fun k=>fD kind (aY l k)) (k+1)=kG (fun k=>fD kind (aY l k)) k++fD kind (aY l k)):=rfl;clear I H G A;generalize kG (fun k=>fD kind (aY l k)) k=LL at*;generalize fD kind (aY l k)=MM at*
   go_wp2_with (at_builtin;refine oG _ rfl _ _ rfl w.heap.size _ LL rfl U _ MM rfl O (by omega) (by omega) ?_;intro v5 Z L R)
   have T:nB w.heap.size w Z:=Below.aU D R (by omega) (bU U);exact⟨⟨k+1,by omega,by go_num,by rw[HZ.out];exact L,T⟩,by simp[intOf];omega⟩
  ·obtain rfl:k=4:=by omega
   rw[H4.out]at I;have R4:=aC.rs I.out (by omega);go_wp2_with fail;refine (kY _ _ _ R4 (by omega) (by omega)).mono ?_;rintro e Y ⟨o6,rfl,g,S⟩;have O6:Hid (aC Y wr.heap.size o6 (aO aW (fT kind l))):=g;clear g;go_wp2_with fail;go_ret;exact⟨_,rfl,cW O6.out Q,aG H S⟩
end Go.Proofs.YtbdpcngcbnoioaaGreatDoor
