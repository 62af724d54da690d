import Derived.Test.YtbdpcngcbnoioaaGreatDoorGq3
set_option maxRecDepth 100000
set_option maxHeartbeats 16000000
namespace Go.Proofs.YtbdpcngcbnoioaaGreatDoor
open Go.RowKit
open _root_.List renaming take_length->fD,length_append->fH,length_take->fV,mem_map->gY,mem_flatMap->gZ,mem_append->iC,getElem?_eq_getElem->jU,mem_of_mem_take->kR,mem_of_getElem?->kX,append_assoc->lI,mem_filter->lY,length_map->mF
open Go.RowKit renaming Below->mJ
open Go.Value renaming slice->nU
open Go renaming Value->oJ,World->oO,Calls->qA,wpQuiet_nil->rN
open Go.RowKit.Below renaming refl->sE
open _root_.Nat renaming le_refl->sG,le_trans->sH
variable {k kind:Int}
theorem A7 (kind:Int){s:List It}(h:d6 s=true):(dE kind s).length<=400:=mC (r6 kind h)
theorem BU (kind:Int)(l:List Rw)(t:Int×Int):(eZ kind l t).length<=1600:=by
 unfold eZ;refine sH (i6 _ _) ?_;have b:=fun x y=>A7 kind (gQ l x y);have w:=b t.1 t.2;have s:=b (t.1-1) t.2;have g:=b t.1 (t.2-1);have a:=b (t.1-1) (t.2-1);simp only[fH,i8,mF];omega
theorem MX {l:List Rw}{t:Int×Int}{r:It}(hr:r∈eZ kind l t): -2<=r.2/\r.2<=2/\mM r.1:=by
 have h1:aU (eZ kind l t) r.1=r.2:=qW eI (kH eI _) hr;have h2:=yU kind l t r.1;rw[h1]at h2;have b:=fun x y=>JR kind (gQ l x y) r.1;have D:=b t.1 t.2;have B:=b (t.1-1) t.2;have A:=b t.1 (t.2-1);have w:=b (t.1-1) (t.2-1);refine⟨by omega,by omega,?_⟩;obtain⟨p,hp,e⟩:=oR hr;have g:∀x y,∀p∈dE kind (bL l x y),mM p.1:=fun x y p hp=>Gc (r6 kind (gQ l x y)) p hp;have:mM p.1:=by
  simp only[iC]at hp
  rcases hp with ((hp|hp)|hp)|hp
  ·exact g _ _ p hp
  ·obtain⟨s,a,rfl⟩:=gY.1 hp;exact g _ _ s a
  ·obtain⟨s,a,rfl⟩:=gY.1 hp;exact g _ _ s a
  ·exact g _ _ p hp
 rw[e]at this;exact this
theorem CE (kind:Int)(l:List Rw)(ts:LI)(t:Int×Int):dZ kind l (ts++[t])=dZ kind l ts++gD t (eZ kind l t):=by
 unfold dZ gD;rw[List.flatMap_append];simp
theorem sD (kind:Int)(l:List Rw)(ts:LI):(dZ kind l ts).length<=1600*ts.length:=by
 unfold dZ;refine N3 (fun t=>?_) ts;rw[mF];exact BU kind l t
theorem vO {l:List Rw}{ts:LI}(A:∀t∈ts,bH t.1 t.2=true){r:Rw}(hr:r∈dZ kind l ts):cU r=true /\ -2<=r.2/\r.2<=2:=by
 obtain⟨h1,h2,_⟩:=Lh A hr;unfold dZ at hr;obtain⟨t,B,hr⟩:=gZ.1 hr;obtain⟨q,hq,rfl⟩:=gY.1 hr;obtain⟨d1,d2,_⟩:=MX hq;obtain⟨s,g,a⟩:=I0 h1 h2;have w:cH q.2 (-99999) 99999=true:=by simp[cH];omega
 refine⟨?_,d1,d2⟩;simp only at s g a;simp only[cU,s,g,a,w,Bool.and_self]
theorem EC {l:List Rw}{n:Nat}(h0:0<=k)(h3:k<=3)(g:∀r∈l,r.1.1.1=k){r:Rw}(hr:r∈dZ kind l ((jT l).take n)):r.1.1.1=k:=by
 refine MF (kind:=kind) (l:=l) h0 h3 g ?_;unfold eX;unfold dZ at hr ⊢;obtain⟨t,a,hr⟩:=gZ.1 hr;exact gZ.2 ⟨t,kR a,hr⟩
theorem Fm {l:List Rw}{n:Nat}{t:Int×Int}(h:t∈(jT l).take n):bH t.1 t.2=true:=LV l t (kR h)
theorem Ht {l:List Rw}:∀r∈aV l k,r.1.1.1=k:=fun r hr=>by simpa using (lY.1 hr).2
theorem JS {l:List Rw}(s:∀r∈l,r.1.1.1=k)(x y:Int):∀p∈bL l x y,p.1.1=k:=fun p hp=>by
 unfold bL at hp;split at hp
 ·obtain⟨q,hq,e⟩:=oR hp;unfold cX at hq;obtain⟨g,a,rfl⟩:=gY.1 hq;rw[<- e];exact s g (lY.1 a).1
 ·simp at hp
open Go.Shelf
theorem B9 {m:List It}(h:∀r∈m,r.2=1):aM m<=m.length:=by
 have:=lQ (l:=m) (c:=1) (fun r hr=>by rw[h r hr];omega);omega
theorem LJ {l:List Rw}{ts:LI}(a:∀t∈ts,bH t.1 t.2=true):aM (dZ kind l ts)<=2*(dZ kind l ts).length:=
 lQ fun _ hr=>(vO a hr).2
theorem IG {w w1:oO}{B:Nat}{v:oJ}{l:LI}{a:Nat}(h:aW w B v l)(hg:w.grownBy w1 (some a))(s:a<B):aW w1 B v l:=
 dF h fun q e=>hg.block q (DE h q e) (fun g=>by cases g;have:=i7 h _ e;omega)
theorem GS (v:oJ)(l:List Rw)(key kind:Int)(w:oO)(h:Rs w v l)(hk:aR l=true)(h0:0<=key)(h3:key<=3)
  (hf:∀(u:oJ)(s:List It)(W:oO),Is W u s->d6 s=true->qA Tryz.prog 256 #[u,.int .i64 key,.int .i64 kind] W fun e T=>∃o:oJ,e=.returned o/\bZ T W.heap.size o (lM kind s key)/\mJ W.heap.size W T):
  qA Tryz.prog 230 #[v,.int .i64 key,.int .i64 kind] w fun e T=>∃o:oJ,e=.returned o/\aD T w.heap.size o (eX kind (aV l key))/\mJ w.heap.size w T:=by
 have HH:Hid (Rs w v l):=h;have hP:=fP hk;have HF:=(show Hid _ from hf);obtain⟨a,zD,rfl,hc,hm,hn,y8⟩:=Rs.open h;unfold maxLen at hm;have HC:=(show Hid _ from y8);have HT:Hid (qU l key=jT (aV l key)):=by show _=_;unfold qU;rw[if_pos hk]
 have v7:Hid (aR (aV l key)=true/\∀r∈aV l key,r.1.1.1=key):=⟨vA hk key,Ht⟩;have U:Hid (0<=key/\key<=3):=⟨h0,h3⟩;have oE:=dW w rfl;have d0:=aG (sE _ w) (.cells #[] 55);clear y8 h hf h0 h3;go_enter Tryz.func230,Tryz.ntmps230;go_wp2_with fail
 go_loopw [7,8] (fun o b wr=>∃k:Nat,k<=l.length/\b=.int .i64 k/\aD wr w.heap.size o (aV (l.take k) key)/\mJ w.heap.size w wr) (fun _ b _=>l.length-(intOf b).toNat)
 case atStart=>exact⟨0,by omega,rfl,oE,d0⟩
 case round=>
  clear oE d0;obtain⟨k,hQ,rfl,F,hb⟩:=hrel;have O1:Hid (aD wr w.heap.size u7 (aV (l.take k) key)):=F;have z8:(aV (l.take k) key).length<=400:=sH (pW _ _) (by rw[fV];omega);have z7:=hb.size;clear F
  by_cases y7:k<l.length
  ·obtain⟨g,off,K,V,A,B,D,rfl,hg,hr,c0,c1,c2,c3,c4⟩:=HC.out k y7;have HR:=(show Hid _ from hr);have q0:=cB hb c0;have q1:=cB hb c1;have q2:=cB hb c2;have q3:=cB hb c3;have q4:=cB hb c4;have ii:((k:Int)<(l.length:Int)):=by omega
   clear c0 c1 c2 c3 c4 hr
   by_cases hK:K=key
   ·have HZ:Hid (aV (l.take (k+1)) key=aV (l.take k) key++[(((K,V),(A,B)),D)]):=xG HR.out hK;subst hK;have O2:aD wr w.heap.size u7 (aV (l.take k) K):=O1.out;generalize aV (l.take k) K=l1 at*
    go_wp2_with (at_builtin;refine jZ _ rfl _ _ rfl w.heap.size _ _ rfl (O2.alloc _) _ _ _ _ _ _ rfl (Bk.new _ _ (by simp)) (by omega) (by simp;omega) ?_;intro g3 t6 w3 x3 O b6)
    have j1:mJ w.heap.size w w3:=Below.aO (aG hb _) O (by simp;omega) (i7 O1.out);go_roundw
    case rel=>exact⟨k+1,by omega,by go_num,by rw[HZ.out];exact x3,j1⟩
    case measure=>simp[intOf];omega
   ·have HZ:Hid (aV (l.take (k+1)) key=aV (l.take k) key):=AL HR.out hK;have nx:(K==key)=false:=beq_eq_false_iff_ne.2 hK;go_wp2_with fail;go_roundw
    case rel=>exact⟨k+1,by omega,by go_num,by rw[HZ.out];exact O1.out,hb⟩
    case measure=>simp[intOf];omega
  ·obtain rfl:k=l.length:=by omega
   have OM:aD wr w.heap.size u7 (aV l key):=by have:=O1.out;rw[fD]at this;exact this
   have hO:(aV l key).length<=400:=by rw[fD]at z8;exact z8
   have RM:Rs wr u7 (aV l key):=aD.rs OM (by omega);obtain⟨am,d5,rfl,-⟩:=Rs.open RM;have u4:mJ wr.heap.size wr (wr.alloc (.cells #[] 55)):=aG (sE _ _) _;have b3:=dW wr rfl;have e5:=(show Hid (Rs wr (.slice am (aV l key).length d5) (aV l key)) from RM);clear O1 OM RM z8 HC;go_wp2_with fail;refine (yY _ l key _ (HH.out.keep (aH hb u4))).mono ?_;rintro e W0 ⟨hI,rfl,y0,v5⟩;rw[HT.out]at y0;obtain⟨aT,cT,rfl⟩:=qP y0;have q9:=mG (aV l key);have g8:=v5.size;have g9:(wr.alloc (.cells #[] 55)).heap.size=wr.heap.size+1:=by simp
   have m4:Hid (∀W,W0.grownBy W (some wr.heap.size)->Rs W (.slice am (aV l key).length d5) (aV l key)/\Ts W (.slice aT (jT (aV l key)).length cT) (jT (aV l key))/\mJ w.heap.size w W):=fun W hg=>by
    have h1:mJ wr.heap.size wr W:=Below.aO (aH u4 v5) hg (by omega) (fun k e=>by cases e;exact sG _);exact⟨e5.out.keep h1,aW.ts (IG y0 hg (by omega)) (by omega),hb.trans (h1.mono z7)⟩
   have f6:Hid (aD W0 wr.heap.size (.slice (some ⟨wr.heap.size,0,none⟩) 0 0) []):=bJ b3 v5;have q5:wr.heap.size+1<=W0.heap.size:=by omega
   clear y0 v5 b3 u4 e5 g9 g8 HH hb;generalize hM:aV l key=M at*;have m2:=(show Hid (aV l key=M) from hM);clear hM;have m0:=(show Hid (w.heap.size<=wr.heap.size) from z7);clear z7;generalize wr.heap.size=H at*;go_wp2_with fail
   go_loopw [9,11] (fun o b wq=>∃i:Nat,i<=(jT M).length/\b=.int .i64 i/\aD wq H o (dZ kind M ((jT M).take i))/\(∀q,o.ownBlock=some q->q=H\/W0.heap.size<=q)/\W0.grownBy wq (some H)) (fun _ b _=>(jT M).length-(intOf b).toNat)
   case atStart=>exact⟨0,by omega,rfl,f6.out,fun q e=> .inl (by cases e;rfl),⟨rfl,rfl,rfl,sG _,fun _ _ _=>rfl⟩⟩
   case round=>
    clear f6;obtain⟨i,hi,rfl,F,hq,hg⟩:=hrel;obtain⟨G,j3⟩:∃G,G=wr:=⟨_,rfl⟩;subst j3;obtain⟨RM,RT,i5⟩:=m4.out G hg;have HO:Hid (aD G H u9 (dZ kind M ((jT M).take i))/\(∀q,u9.ownBlock=some q->q=H\/W0.heap.size<=q)):=⟨F,hq⟩;have HG:Hid (W0.grownBy G (some H)):=hg;have p3:=hg.size;have f4:Hid (∀t∈(jT M).take i,bH t.1 t.2=true):=fun t ht=>Fm ht;have hV:(dZ kind M ((jT M).take i)).length<=102400:=by have:=sD kind M ((jT M).take i);rw[fV]at this;omega
    have d4:Rs G u9 (dZ kind M ((jT M).take i)):=aD.rs F (by omega);obtain⟨ao,I,rfl,-,-,-,c9⟩:=Rs.open d4;have o0:=(show Hid _ from c9);clear F hq d4 hg c9
    by_cases y7:i<(jT M).length
    ·obtain⟨zF,zE,eT,-,-,-,b9⟩:=RT;obtain⟨g,off,eg,b8,c0,c1⟩:=b9 i y7;cases eT;cases eg;have e4:Hid ((jT M)[i]?=some (tA (jT M) i,tB (jT M) i)):=by
      show _=_
      rw[jU y7];simp[tA,tB,List.getD_eq_getElem?_getD,jU y7]
     have ii:((i:Int)<((jT M).length:Int)):=by omega
     have a0:mJ G.heap.size G (G.alloc (.cells #[.int .i64 (tA (jT M) i),.int .i64 (tB (jT M) i)] 32)):=aG (sE _ _) _;have bX:Bk (G.alloc (.cells #[.int .i64 (tA (jT M) i),.int .i64 (tB (jT M) i)] 32)) G.heap.size #[.int .i64 (tA (jT M) i),.int .i64 (tB (jT M) i)] 32:=Bk.new _ _ rfl;have e1:=RM.keep a0;obtain⟨x0,x1,_,_⟩:=bX.two;clear RM b9;generalize tA (jT M) i=X at*;generalize tB (jT M) i=Y at*;go_wp2_with fail;generalize G.alloc (.cells #[.int .i64 X,.int .i64 Y] 32)=W1 at*;refine (Hi _ M X Y W1 e1).mono ?_;rintro e J ⟨o2,rfl,w8,a2⟩;have I2:=bZ.is w8 (by have:=Ce M X Y;omega);have u0:=aH a0 a2;clear w8 e1 x0 x1;go_wp2_with fail;refine (HF.out _ _ J I2 (gQ M X Y)).mono ?_;rintro e W3 ⟨o3,rfl,x3,Q⟩;have HS:Hid (lM kind (bL M X Y) key=dE kind (bL M X Y)):=(Dx kind (gQ M X Y) (JS v7.out.2 X Y) U.out.1 U.out.2).symm;rw[HS.out]at x3;have hN:=A7 kind (gQ M X Y);have l6:Hid (aM (dE kind (bL M X Y))<=400):=by
      have:=B9 (m:=dE kind (bL M X Y)) (fun r hr=>xA (gQ M X Y) hr)
      show _<=_;omega
     have v6:Hid (∀W,mJ J.heap.size J W->mJ G.heap.size G W/\Bk W G.heap.size #[.int .i64 X,.int .i64 Y] 32):=fun W hW=>⟨aH u0 hW,(bX.keep a2).keep hW⟩;have p5:=u0.size;clear I2 a0 a2 u0 bX;have f5:=(show Hid (bZ W3 J.heap.size o3 (dE kind (bL M X Y))) from x3);have g1:=(show Hid (mJ J.heap.size J W3) from Q);have n6:Hid (∀r∈dZ kind M ((jT M).take i),r.1.1.1=key /\ -2<=r.2/\r.2<=2):=fun r hr=>⟨EC U.out.1 U.out.2 v7.out.2 hr,(vO f4.out hr).2⟩;have o4:Hid (aM (dZ kind M ((jT M).take i))<=204800):=by have:=LJ (kind:=kind) (l:=M) f4.out;show _<=_;omega
     have m3:Hid (∀L:List It,L=dE kind (bL M X Y)++i8 (cX (dZ kind M ((jT M).take i)) X Y)->aP cO L=eZ kind M (X,Y)):=fun L hL=>ET kind v7.out.1 e4.out fun v=>by rw[hL,iQ,xS];exact Int.sub_eq_add_neg.symm
     have f7:Hid (dZ kind M ((jT M).take (i+1))=dZ kind M ((jT M).take i)++gD (X,Y) (eZ kind M (X,Y))):=by show _=_;rw[gL e4.out,CE]
     clear x3 Q;generalize hC:dZ kind M ((jT M).take i)=C at*;generalize hS:dE kind (bL M X Y)=S at*;clear hC hS HS;go_wp2_with fail
     go_loopw [13,14] (fun o b wq=>∃k:Nat,k<=C.length/\b=.int .i64 k/\bZ wq J.heap.size o (S++i8 (cX (C.take k) X Y))/\mJ J.heap.size J wq) (fun _ b _=>C.length-(intOf b).toNat)
     case atStart=>exact⟨0,by omega,rfl,by have:=f5.out;simpa[cX,i8]using this,g1.out⟩
     case round=>
      clear f5 g1;obtain⟨k,hT,rfl,F,z0⟩:=hrel;obtain⟨y9,bX⟩:=v6.out _ z0;have N:Hid (bZ wr J.heap.size u13 (S++i8 (cX (C.take k) X Y))):=F;have p4:=z0.size;have j5:(S++i8 (cX (C.take k) X Y)).length<=200000:=by
       have:=pF (C.take k) X Y;rw[fH,EM];rw[fV]at this;omega
      by_cases v4:k<C.length
      ·obtain⟨g,off,K,V,A,B,D,rfl,b8,hr,c0,c1,c2,c3,c4⟩:=o0.out k v4;have HR:=(show Hid _ from hr);obtain⟨rfl,d1,d2⟩:K=key /\ -2<=D/\D<=2:=n6.out _ (kX hr);have e2:∀p:dH wr,p.ww.cell? ⟨g,off+k*5+2,none⟩=some (.int .i64 A):=fun p=>cB p.below (cB y9 c2);have e3:∀p:dH wr,p.ww.cell? ⟨g,off+k*5+3,none⟩=some (.int .i64 B):=fun p=>cB p.below (cB y9 c3);have t0:=bX.cw;have t1:=bX.cu;have hne:=jC wr;have ik:((k:Int)<(C.length:Int)):=by omega
       have iw:IntKind.i64.wrap (-D) = -D:=by rw[IntKind.wrap_i64];omega
       have HX:Hid (∀W,mJ J.heap.size J W->W.cell? ⟨g,off+k*5+1,none⟩=some (.int .i64 V)/\W.cell? ⟨g,off+k*5+4,none⟩=some (.int .i64 D)):=fun W hW=>⟨cB (v6.out W hW).1 c1,cB (v6.out W hW).1 c4⟩;clear c0 c1 c2 c3 c4 hr F bX;cases hp:cV A B X Y
       ·have HZ:Hid (cX (C.take (k+1)) X Y=cX (C.take k) X Y):=DA HR.out hp;go_wp2_with fail
        (refine jJ (by kernel_rfl) (by kernel_rfl) ?_;(repeat (go_big_quiet_step ((first|(go_at_call 129;exact iJ (iS (by with_reducible assumption) _))))));refine rN ?_)
        intro w3 R
        replace R:=jM R
        have O3:Hid (bZ w3 J.heap.size u13 (S++i8 (cX (C.take k) X Y))):=bJ N.out R;have Q:=aH z0 R;clear N e2 e3 t0 t1 hne;go_wp2_with fail;go_roundw
        case rel=>exact⟨k+1,by omega,by go_num,by rw[HZ.out];exact O3.out,Q⟩
        case measure=>simp[intOf];omega
       ·have HZ:Hid (S++i8 (cX (C.take (k+1)) X Y)=S++i8 (cX (C.take k) X Y)++[((K,V),-D)]):=by
         show _=_;rw[BP HR.out hp,Hf,lI]
        go_wp2_with fail
        (refine jJ (by kernel_rfl) (by kernel_rfl) ?_;(repeat (go_big_quiet_step ((first|(go_at_call 129;exact iJ (iS (by with_reducible assumption) _))))));refine rN ?_)
        intro w3 R
        replace R:=jM R
        have O3:bZ w3 J.heap.size u13 (S++i8 (cX (C.take k) X Y)):=bJ N.out R;have Q:=aH z0 R;have b4:=Q.size;obtain⟨y1,y4⟩:=HX.out w3 Q;clear N e2 e3 t0 t1 hne;generalize S++i8 (cX (C.take k) X Y)=LL at*;go_wp2_with fail
        go_region_held3 (fun T=>T.cell? ⟨g,off+k*5+1,none⟩=some (.int .i64 V)/\T.cell? ⟨g,off+k*5+4,none⟩=some (.int .i64 D))
         (first|exact HX.out _ Q.drew|exact HX.out _ (qT Q b4 _).drew|exact HX.out _ d3)
         (first
          | (refine Gk _ (by rfl) _ _ (by rfl) J.heap.size _ LL (by rfl) ((O3.alloc _).drew) _ K V (-D) (by rfl) ((Bk.new _ _ rfl).drew) (by omega) (by simp;omega) ?_;intro g7 u8 w7 y2 O b6;have d3:mJ J.heap.size J w7:=Below.aO (qT Q b4 _).drew O (by simp;omega) (fun q e=>oB O3 q e)))
        go_wp2_with fail;go_roundw
        case rel=>exact⟨k+1,by omega,by go_num,by rw[HZ.out];exact y2,d3⟩
        case measure=>simp[intOf];omega
      ·obtain rfl:k=C.length:=by omega
       have hX:aM (S++i8 (cX C X Y))<=300000:=by
        have h1:=G5 (l:=C) (x:=X) (y:=Y);have h2:=l6.out;have h3:=o4.out;rw[gJ,GW];omega
       rw[fD]at j5;have IL:Is wr u13 (S++i8 (cX C X Y)):=by have:=N.out;rw[fD]at this;exact bZ.is this (by omega)
       have n5:Hid (aP cO (S++i8 (cX C X Y))=eZ kind M (X,Y)):=m3.out _ rfl;obtain⟨Wk,j2⟩:∃Wk,Wk=wr:=⟨_,rfl⟩;subst j2;clear N F;go_wp2_with fail;refine (zV _ (S++i8 (cX C X Y)) _ IL (by omega) (by omega)).mono ?_;rw[n5.out];rintro e W5 ⟨o5,rfl,x2,a1⟩;have hU:=BU kind M (X,Y);have I5:=bZ.is x2 (by omega);obtain⟨a5,k2,rfl,-,-,-,x9⟩:=Is.open I5;have zW:=(show Hid _ from x9);have z9:=aH y9 a1;have g5:=(show Hid (Bk W5 G.heap.size #[.int .i64 X,.int .i64 Y] 32) from bX.keep a1);have f3:Hid (aD W5 H (.slice ao C.length I) C):=bJ HO.out.1 z9;have HQ:=(show Hid (∀q,(nU ao C.length I).ownBlock=some q->q=H\/W0.heap.size<=q) from HO.out.2);have f8:Hid (∀q,(nU ao C.length I).ownBlock=some q->q<G.heap.size):=fun q e=>oT HO.out.1 q e;have a8:Hid (W0.grownBy W5 (some H)):=HG.out.andThen (uO z9 none) (fun j e=>by cases e);have q6:H<=W5.heap.size:=by have:=a8.out.size;omega
       have g0:Hid (∀W,W5.grownBy W (nU ao C.length I).ownBlock->Is W (.slice a5 (eZ kind M (X,Y)).length k2) (eZ kind M (X,Y))/\Bk W G.heap.size #[.int .i64 X,.int .i64 Y] 32):=fun W hW=>by
        refine⟨bZ.is (dF x2 fun q e=>hW.block q (oT x2 q e) (fun e'=>?_)) (by omega),Bk.aO g5.out hW (fun q e=>?_)⟩
        ·have h1:=oB x2 q e;have h2:=f8.out q e'.symm;have h3:=y9.size;omega
        ·have h2:=f8.out q e;omega
       clear IL x2 I5 x9 a1 z9 bX y9 z0 v6 g5;generalize hY:eZ kind M (X,Y)=Z at*;have n4:Hid (∀r∈Z,r.1.1=key):=fun r hr=>by
        have:((r.1,(X,Y)),r.2)∈dZ kind M ((jT M).take (i+1)):=by
         rw[f7.out,iC];exact .inr (gY.2 ⟨r,hr,rfl⟩)
        exact EC U.out.1 U.out.2 v7.out.2 this
       go_wp2_with fail
       go_loopw [9,15] (fun o b wq=>∃k:Nat,k<=Z.length/\b=.int .i64 k/\aD wq H o (C++gD (X,Y) (Z.take k))/\(∀q,o.ownBlock=some q->(nU ao C.length I).ownBlock=some q\/W5.heap.size<=q)/\W5.grownBy wq (nU ao C.length I).ownBlock) (fun _ b _=>Z.length-(intOf b).toNat)
       case atStart=>exact⟨0,by omega,rfl,by have:=f3.out;simpa[gD]using this,fun q e=> .inl e,⟨rfl,rfl,rfl,sG _,fun _ _ _=>rfl⟩⟩
       case round=>
        clear f3;obtain⟨k,hR,rfl,F,hq,hg⟩:=hrel;have N:Hid (aD wr H u9 (C++gD (X,Y) (Z.take k))):=F;have z6:Hid (∀q,u9.ownBlock=some q->(nU ao C.length I).ownBlock=some q\/W5.heap.size<=q):=hq;have v8:Hid (W5.grownBy wr (nU ao C.length I).ownBlock):=hg;have hJ:=hg.size;obtain⟨I6,g4⟩:=g0.out wr hg;clear F hq hg
        by_cases v4:k<Z.length
        ·obtain⟨a6,zB,e6,-,-,-,x8⟩:=Is.open I6;obtain⟨g,off,K,V,D,e7,b8,hr,c0,c1,c2⟩:=x8 k v4;cases e6;cases e7;have hK:K=key:=n4.out _ (kX hr);subst hK;have HR:Hid (C++gD (X,Y) (Z.take (k+1))=C++gD (X,Y) (Z.take k)++[(((K,V),(X,Y)),D)]):=by show _=_;rw[Ay hr,lI]
         have ik:((k:Int)<(Z.length:Int)):=by omega
         have r1:(C++gD (X,Y) (Z.take k)).length<=200000:=by rw[fH,tC,fV];omega
         have HX:Hid (∀W,wr.grownBy W u9.ownBlock->W.cell? ⟨g,off+k*3+1,none⟩=some (.int .i64 V)/\W.cell? ⟨g,off+k*3+2,none⟩=some (.int .i64 D)/\W.cell? ⟨G.heap.size,0,none⟩=some (.int .i64 X)/\W.cell? ⟨G.heap.size,1,none⟩=some (.int .i64 Y)):=fun W hW=>by
          obtain⟨I7,g2⟩:=g0.out W (v8.out.andThen hW (fun j e=>(z6.out j e).symm));obtain⟨a7,xE,e8,-,-,-,w2⟩:=Is.open I7;obtain⟨g',o8,K',V',D',e9,_,b5,f0,f1,f2⟩:=w2 k v4;cases e8;cases e9;rw[hr]at b5;cases b5;exact⟨f1,f2,g2.two.1,g2.two.2.1⟩
         have O6:aD wr H u9 (C++gD (X,Y) (Z.take k)):=N.out;have p9:H<=wr.heap.size:=by omega
         obtain⟨z1,z2,z3,z4⟩:=HX.out wr ⟨rfl,rfl,rfl,sG _,fun _ _ _=>rfl⟩;clear hr c0 c1 c2 x8 I6 g4 N;generalize C++gD (X,Y) (Z.take k)=LL at*;go_wp2_with fail
         go_region_held3 (fun T=>T.cell? ⟨g,off+k*3+1,none⟩=some (.int .i64 V)/\T.cell? ⟨g,off+k*3+2,none⟩=some (.int .i64 D)/\T.cell? ⟨G.heap.size,0,none⟩=some (.int .i64 X)/\T.cell? ⟨G.heap.size,1,none⟩=some (.int .i64 Y))
          (first|exact HX.out _ (uO (sE _ _).drew _)|exact HX.out _ (uO (aG (sE _ _) _).drew _)|exact HX.out _ w9)
          (first
           | (refine Nt _ (by rfl) _ _ (by rfl) H _ LL (by rfl) ((O6.alloc _).drew) _ K V X Y D (by rfl) ((Bk.new _ _ rfl).drew) (by omega) (by simp;omega) ?_;intro g7 u8 w7 y2 O b7 b6;have w9:wr.grownBy w7 u9.ownBlock:=(uO (aG (sE _ wr) _).drew _).andThen O (fun j e=> .inr e)))
         have l8:Hid (∀q,(nU (some ⟨g7,0,none⟩) (LL.length+1) u8).ownBlock=some q->(nU ao C.length I).ownBlock=some q\/W5.heap.size<=q):=fun q e=>by
          cases e
          rcases b7 with e|e
          ·exact z6.out _ e
          ·right
           have h1:g7=wr.heap.size+1:=by rw[e];simp
           show W5.heap.size<=g7
           omega
         have m9:Hid (W5.grownBy w7 (nU ao C.length I).ownBlock):=v8.out.andThen w9 (fun j e=>(z6.out j e).symm);have m1:Hid (aD w7 H (.slice (some ⟨g7,0,none⟩) (LL.length+1) u8) (LL++[(((K,V),(X,Y)),D)])):=y2;clear b7 O w9 y2;go_wp2_with fail;go_roundw
         case rel=>exact⟨k+1,by omega,by go_num,by rw[HR.out];exact m1.out,l8.out,m9.out⟩
         case measure=>simp[intOf];omega
        ·obtain rfl:k=Z.length:=by omega
         have b0:Hid (aD wr H u9 (dZ kind M ((jT M).take (i+1)))/\(∀q,u9.ownBlock=some q->q=H\/W0.heap.size<=q)/\W0.grownBy wr (some H)):=by
          refine⟨?_,fun q e=>?_,a8.out.andThen v8.out (fun j e=>?_)⟩
          ·have:=N.out;rw[fD]at this;rw[f7.out];exact this
          ·rcases z6.out q e with e'|e'
           ·exact HQ.out q e'
           ·right;have:=a8.out.size;omega
          ·rcases HQ.out j e with e'|e'
           ·right;rw[e']
           ·exact .inl e'
         clear N z6 v8 I6 g4;go_wp2_with fail;go_roundw
         case rel=>exact⟨i+1,by omega,by go_num,b0.out.1,b0.out.2.1,b0.out.2.2⟩
         case measure=>simp[intOf];omega
    ·obtain rfl:i=(jT M).length:=by omega
     have n3:Hid (aD G H (.slice ao (dZ kind M ((jT M).take (jT M).length)).length I) (eX kind M)):=by
      have:=HO.out.1;rw[fD]at this ⊢;exact this
     clear RM RT;go_wp2_with fail;go_ret;exact⟨_,rfl,by rw[m2.out];exact bQ n3.out m0.out,i5⟩
def jV (f:Int->List Rw):Nat->List Rw
 | 0=>[]
 | k+1=>jV f k++f k
theorem EO {f:Int->List Rw}{c:Nat}(h:∀k,(f k).length<=c)(k:Nat):(jV f k).length<=k*c:=by
 induction k with
 | zero=>simp[jV]
 | succ k ih=>have:=h k;simp only[jV,fH,Nat.add_mul];omega
theorem Bv (kind:Int)(a:List Rw):jV (fun k=>eX kind (aV a k)) 4=fT kind a:=by simp[jV,fT]
theorem r9 (kind:Int)(l:List Rw):(eX kind l).length<=102400:=by
 unfold eX;have h1:=sD kind l (jT l);have h2:=mG l;omega
theorem tL (kind:Int)(a:List Rw):(fT kind a).length<=409600:=by
 have h:=fun k=>r9 kind (aV a k);have h0:=h 0;have h1:=h 1;have h2:=h 2;have h3:=h 3;unfold fT;simp only[fH];omega
theorem CJ {a:List Rw}{r:Rw}(hr:r∈fT kind a):cU r=true /\ -2<=r.2/\r.2<=2:=by
 unfold fT at hr;simp only[iC]at hr
 rcases hr with ((hr|hr)|hr)|hr<;>exact vO (LV _) hr
theorem CM (kind:Int)(a:List Rw):aM (fT kind a)<=819200:=by
 have h1:=lQ (l:=fT kind a) (c:=2) (fun _ hr=>(CJ hr).2);have h2:=tL kind a;omega
theorem Kr {a:List Rw}:∀r∈fT kind a,spOk r.1:=fun _ hr=>yA (CJ hr).1
theorem Gf (h:cH kind 1 3=true)(key:Int)(u:oJ)(s:List It)(W:oO)(hs:Is W u s)(a:d6 s=true):
  qA Tryz.prog 256 #[u,.int .i64 key,.int .i64 kind] W fun e g=>∃o:oJ,e=.returned o/\bZ g W.heap.size o (lM kind s key)/\mJ W.heap.size W g:=by
 have w:kind=1\/kind=2\/kind=3:=by simp[cH]at h;omega
 rcases w with rfl|rfl|rfl
 ·exact MI u s key W hs a
 ·exact Ma u s key W hs a
 ·exact MU u s key W hs a
theorem Gg (v:oJ)(l:List Rw)(kind:Int)(w:oO)(h:Rs w v l)(hk:aR l=true)(hw:cH kind 1 3=true):
  qA Tryz.prog 190 #[v,.int .i64 kind] w fun e a=>∃o:oJ,e=.returned o/\aD a w.heap.size o (aP aQ (fT kind l))/\mJ w.heap.size w a:=by
 have HI:Hid (Rs w v l):=h;have HF:Hid (∀(key:Int)(W:oO),0<=key->key<=3->Rs W v l->qA Tryz.prog 230 #[v,.int .i64 key,.int .i64 kind] W fun e a=>∃o:oJ,e=.returned o/\aD a W.heap.size o (eX kind (aV l key))/\mJ W.heap.size W a):=fun key W h0 h3 hR=>GS v l key kind W hR hk h0 h3 (fun u s W'=>Gf hw key u s W');have HL:Hid (∀k,(jV (fun k=>eX kind (aV l k)) k).length<=k*102400):=EO fun k=>r9 kind (aV l k);have T:Hid (∀k,(eX kind (aV l k)).length<=102400):=fun k=>r9 kind (aV l k);have H4:Hid (jV (fun k=>eX kind (aV l k)) 4=fT kind l):=Bv kind l;have hfl:=tL kind l;have y4:=CM kind l;have L:=dW w rfl;have I:=aG (sE _ w) (.cells #[] 55);clear h;go_enter Tryz.func190,Tryz.ntmps190;go_wp2_with fail
 go_loopw [5,6] (fun o i wr=>∃k:Nat,k<=4/\i=.int .i64 k/\aD wr w.heap.size o (jV (fun k=>eX kind (aV l k)) k)/\mJ w.heap.size w wr) (fun _ i _=>4-(intOf i).toNat)
 case atStart=>exact⟨0,by omega,rfl,L,I⟩
 case round=>
  clear L I;obtain⟨k,y3,rfl,B,G⟩:=hrel;have H:Hid (aD wr w.heap.size u5 (jV (fun k=>eX kind (aV l k)) k)):=B;clear B;have N:=G.size
  by_cases y2:k<4
  ·have ik:(k:Int)<4:=by omega
   go_wp2_with fail;refine (HF.out k _ (by omega) (by omega) (HI.out.keep G)).mono ?_;rintro e Y ⟨o2,rfl,A,F⟩;have h1:=HL.out k;have h2:=T.out k;have M:=aD.rs A (by omega);have D:=aH G F;have x0:=D.size;have S:aD Y w.heap.size u5 (jV (fun k=>eX kind (aV l k)) k):=bJ H.out F;have HZ:Hid (jV (fun k=>eX kind (aV l k)) (k+1)=jV (fun k=>eX kind (aV l k)) k++eX kind (aV l k)):=rfl;clear H G F A;generalize jV (fun k=>eX kind (aV l k)) k=LL at*;generalize eX kind (aV l k)=MM at*
   go_wp2_with (at_builtin;refine kZ _ rfl _ _ rfl w.heap.size _ LL rfl S _ MM rfl M (by omega) (by omega) ?_;intro v5 V J O)
   have R:mJ w.heap.size w V:=Below.aO D O (by omega) (oB S);exact⟨⟨k+1,by omega,by go_num,by rw[HZ.out];exact J,R⟩,by simp[intOf];omega⟩
  ·obtain rfl:k=4:=by omega
   rw[H4.out]at H;have R4:=aD.rs H.out (by omega);go_wp2_with fail;refine (k9 _ _ _ R4 (by omega) (by omega)).mono ?_;rintro e U ⟨Z,rfl,g,Q⟩;have O6:Hid (aD U wr.heap.size Z (aP aQ (fT kind l))):=g;clear g;go_wp2_with fail;go_ret;exact⟨_,rfl,bQ O6.out N,aH G Q⟩
end Go.Proofs.YtbdpcngcbnoioaaGreatDoor
