import Derived.Test.YtbdpcngcbnoioaaGreatDoorGq1
import Derived.Sort.QuietIn
set_option maxRecDepth 100000
set_option maxHeartbeats 16000000
namespace Go.Proofs.YtbdpcngcbnoioaaGreatDoor
open Go.RowKit Go.Shelf
open _root_.List renaming length_map->fM,length_take->fQ,take_length->gD,mem_append->gM,map_append->gQ,mem_append_left->gX,length_append->iM,filter_append->iP,eq_nil_of_length_eq_zero->jB,getD_eq_getElem?_getD->jO,getElem?_eq_getElem->mO,length_filter_le->nA,take_add_one->nB,nodup_append->nT,length_range->nX,length_cons->oU,range_succ->oW
open Go.RowKit renaming Below->pU
open Go renaming World->qV,Value->sD,callsIn_wide->tJ,CallsIn->tK,IntKind->tL,Calls->tM,Addr->tN
open _root_.Nat renaming le_refl->xU,le_trans->xV,zero_le->AP
open Go.RowKit.Below renaming refl->AW
open Go.Proofs.Tryz renaming prog->C5
open Go.CallsIn renaming mono->Df
variable {B hb i j k m n:Nat}{J:LI->qV->Prop}{T l:LI}{W w wr:qV}{X Y:Int}{v:sD}
attribute [local go_sem] Oper.semAt_some
theorem RF {g:Nat}(h:Bk W g #[.int .i64 X,.int .i64 Y] 32):∀j u,[sD.int .i64 X,sD.int .i64 Y][j]?=some u->W.cell? ((⟨g,0,none⟩:tN).add j)=some u:=by
 intro j u a
 match j,a with
 | 0,a=>simp at a;subst a;simpa[tN.add]using h.two.1
 | 1,a=>simp at a;subst a;simpa[tN.add]using h.two.2.1
theorem EO {a:Nat}(D M:TypeId)(S:C5.underlying D=some (.slice 32))(H:bW W a v l)(I:Nat)(X Y:Int)(U:Bk W I #[.int .i64 X,.int .i64 Y] 32)(hl:l.length<=2000000)(G:a<=W.heap.size):
  ∃g A s,(Builtin.append_ #[D,D] M #[v,.slice (some ⟨I,0,none⟩) 1 1]).run C5 W=.ok (.slice (some ⟨g,0,none⟩) (l.length+1) A) s/\bW s a (.slice (some ⟨g,0,none⟩) (l.length+1) A) (l++[(X,Y)]) /\
   W.grownBy s v.ownBlock/\(v.ownBlock=some g\/g=W.heap.size)/\g<s.heap.size:=by
 obtain⟨i0,hi,R,Q,O⟩:=info_parts rV;obtain⟨g,A,s,h1,h2,h3,h4,h5⟩:=run_append_lies (P:=C5) (w:=W) D M a 32 i0 _ 2 16 S hi R Q O rfl (by decide) v l.length (jR l) H ⟨I,0,none⟩ 1 1 [.int .i64 X,.int .i64 Y] rfl (RF U) (rY _ _) (by omega) (by unfold maxLen;omega) (by omega) G W.heap.size rfl;refine⟨g,A,s,h1,?_,h3,h4,h5⟩
 show s.ownsRow _ _ _ _ _ _
 rw[mC];simpa using h2
theorem Oc (h:Hp w hb l)(g:cK l l.length 0)(h0:0<l.length)(hl:l.length<=1000000)(hg:gt l 0=(X,Y)):
  tM C5 263 #[DK hb] w fun e a=>e=.returned (.iface 32 (tv X Y))/\∃c:LI,Hp a hb c/\c.length+1=l.length/\(∀x,x∈l↔x=(X,Y)\/x∈c)/\cK c c.length 0/\HF hb w a:=by
 have:=Ma h g h0 hl;rw[hg]at this;exact this
def zL:sD->Nat
 | .slice _ n _=>n
 | _=>0
theorem uI (h:bW w B v l):∃ad a,v=.slice ad l.length a:=by
 rcases mZ h with⟨rfl,rfl⟩|⟨g,a,c,rfl,_⟩
 ·exact⟨_,_,rfl⟩
 ·exact⟨_,_,rfl⟩
structure Cn (l:List Rw)(m hb:Nat)(J:LI->qV->Prop)(p:sD)(n:Nat)(next:LI)(wr:qV):Prop where
 own:bW wr hb p ((jT l).take n)
 hp:Hp wr hb next
 low:cK next next.length 0
 pt:pC l n next
 le:next.length<=400+64*n
 dj:Dj hb m hb p.ownBlock wr
 jj:J ((jT l).take n) wr
theorem vJ (a:pU B w W)(G:w.heap.size<=B)(hf:HF hb W wr)(D:w.heap.size<=hb)(ha:cD W hb=none){g:Nat}(s:w.cell? ⟨g,i,none⟩=some v):wr.cell? ⟨g,i,none⟩=some v:=by
 have A:=lC s;rw[qV.cell?_of_block (w:=w) ((hf.keep g (by have:=a.size;omega) (by omega) (by rw[ha];simp)).trans (a.block g (by omega)))];exact s
theorem nZ (h:bW w B v l)(hi:i<l.length):∃g a,v=.slice (some ⟨g,0,none⟩) l.length a/\w.cell? ⟨g,i*2,none⟩=some (.int .i64 (gt l i).1)/\w.cell? ⟨g,i*2+1,none⟩=some (.int .i64 (gt l i).2):=by
 rcases mZ h with⟨rfl,rfl⟩|⟨g,a,c,rfl,_,hb,_,_,_,hf⟩
 ·simp at hi
 ·exact⟨g,a,rfl,hb.cell (hf i hi).1,hb.cell (hf i hi).2⟩
theorem Cn.eE {l:List Rw}{p:sD}{next:LI}(h:Cn l m hb J p n next wr):(64-zL p)*64+zL ((wr.cell? ⟨hb,0,none⟩).getD (.int .i64 0))=(64-n)*64+next.length:=by
 obtain⟨ad,I,e⟩:=uI h.own;have D:=h.pt.le;have s:((jT l).take n).length=n:=by rw[fQ];omega
 obtain⟨v,g,a,_⟩:=h.hp;obtain⟨H,G,A⟩:=uI a;rw[e,g.cell (i:=0) (v:=v) rfl,A,s];rfl
theorem Me {l:List Rw}{u:sD}{next c a:LI}{w1:qV}(hP:pC l n next)(G:(X,Y)∈next)(g:∀x∈next,kQ (X,Y) x)(hn:n<(jT l).length)(I:gt (jT l) n=(X,Y))(x3:next.length<=400+64*n)(Z:c.length+1=next.length/\(∀x,x∈next↔x=(X,Y)\/x∈c))
  (x5:a.length=c.length+n) (H:∀x,x∈a↔x∈c\/∃j,j<n/\x=jU (gt (jT l) j) (X,Y)) (D:cK a a.length 0) (hp:Hp w hb a) (hD:Dj hb m hb v.ownBlock w)
  (hJ:∀s A M,J s A->tP hb m A M->J s M) (V:J ((jT l).take (n+1)) w) (hg:w.grownBy w1 v.ownBlock) (U:u.ownBlock=v.ownBlock\/(u.ownBlock=some w.heap.size/\w.heap.size<w1.heap.size)) (ho:bW w1 hb u ((jT l).take n++[(X,Y)])):Cn l m hb J u (n+1) a w1:=by
 obtain⟨S,R,Q,O⟩:=hD.app hg U;have hT:(jT l).take (n+1)=(jT l).take n++[(X,Y)]:=by
  rw[nB]
  congr 1
  rw[<- I];unfold gt;simp[jO,mO hn]
 have x4:=nJ l;exact⟨by rw[hT];exact ho,hp.app Q O,D,hP.told G g hn I Z.2 H,by omega,R,hJ _ _ _ V S⟩
structure Cm (l:List Rw)(m hb bt:Nat)(J:LI->qV->Prop)(pv:sD)(n:Nat)(c:LI)(X Y:Int)(k:Nat)(c':LI)(wr:qV):Prop where
 own:bW wr hb pv ((jT l).take n)
 hp:Hp wr hb c'
 low:cK c' c'.length 0
 len:c'.length=c.length+k
 mem:∀x,x∈c'↔x∈c\/∃j,j<k/\x=jU (gt (jT l) j) (X,Y)
 dj:Dj hb m hb pv.ownBlock wr
 jj:J ((jT l).take (n+1)) wr
 bx:Bk wr bt #[.int .i64 X,.int .i64 Y] 32
 ba:cD wr hb≠some bt
 bh:bt≠hb
theorem Cm.step {l:List Rw}{I:Nat}{pv:sD}{c:LI}{H g:LI}{w1 D:qV}(h:Cm l m hb I J pv n c X Y k H wr)(Q:∀s A R,J s A->tP hb m A R->J s R)
  (a:pU wr.heap.size wr w1) (hF:HF hb w1 D) (O:Hp D hb g) (hl:g.length=H.length+1) (hm:∀x,x∈g↔x∈H\/x=jU (gt (jT l) k) (X,Y)) (G:cK g g.length 0):Cm l m hb I J pv n c X Y (k+1) g D:=by
 have M:=h.dj.below a;have ha:cD w1 hb≠some I:=by rw[aB (a.block hb h.dj.hw)];exact h.ba
 have V:=(h.bx.keep a).lt;refine⟨M.df hF (cC h.own a),O,G,by rw[hl,h.len];omega,fun x=>?_,M.hf hF,Q _ _ _ (Q _ _ _ h.jj (h.dj.cE a)) (M.da hF),hF.bk (h.bx.keep a) h.bh ha,?_,h.bh⟩
 ·rw[hm,h.mem];constructor
  ·rintro ((e|⟨j,S,e⟩)|e)
   ·exact .inl e
   ·exact .inr ⟨j,by omega,e⟩
   ·exact .inr ⟨k,by omega,e⟩
  ·rintro (e|⟨j,S,e⟩)
   ·exact .inl (.inl e)
   ·by_cases hq:j=k
    ·subst hq;exact .inr e
    ·exact .inl (.inr ⟨j,by omega,e⟩)
 ·rcases hF.arr with e|⟨q,e,h1,h2⟩
  ·rw[e];exact ha
  ·rw[e];intro U;cases U;omega
theorem Mz (h:bW w B v l)(a:Dj hb m hb v.ownBlock w):∃pv,v=pv/\bW w B pv l/\Dj hb m hb pv.ownBlock w:=⟨v,rfl,h,a⟩
theorem OV {P:Int×Int}(h:P≠(X,Y)):(P.1==X)=false\/(P.1=X/\(P.2==Y)=false):=by
 by_cases h1:P.1=X
 ·refine .inr ⟨h1,beq_eq_false_iff_ne.2 fun e=>h (Prod.ext h1 e)⟩
 ·exact .inl (beq_eq_false_iff_ne.2 h1)
def RK (l:List Rw)(pre:LI)(t:Int×Int):Prop:=∃n,n<(jT l).length/\pre=(jT l).take n/\gt (jT l) n=t
theorem Il (lp b1 m:Nat)(a:Option tN)(a5:Nat)(l:List Rw)(J:LI->qV->Prop)(W:qV)
  (hJ:∀s A A',J s A->tP W.heap.size m A A'->J s A')
  (hY:∀pre t W1,J pre W1->pre.length<64->RK l pre t->YieldAt Fence.wide (3-1) C5 lp #[tv t.1 t.2] W1 fun e W'=>e=.returned (.bool true)/\J (pre++[t]) W'/\j8 m W1 W')
  (hk:aZ l=true) (f1:Rs W (.slice a l.length a5) l) (e7:Bk W b1 #[.slice a l.length a5] 28) (hm:m<W.heap.size) (ha:∀q,cD W m=some q->q<W.heap.size) (h0:J [] W):
  tK Fence.wide 3 C5 261 #[.func (.yield lp) #[] #[],.pointer (some ⟨b1,0,none⟩)] W fun e W'=>(∃v,e=.returned v)/\∃xs,xs=jT l/\J xs W':=by
 have hW:=i6 hk;have HK:=(show Hid (aZ l=true) from hk);obtain⟨a',c',e,hc,n3,hn,z0⟩:=Rs.open f1;cases e;unfold maxLen at n3;have Q:=(show Hid _ from z0);have O:pU W.heap.size W (W.alloc (.cells #[.slice none 0 0] 303)):=aH (AW _ _) _;have a6:Bk (W.alloc (.cells #[.slice none 0 0] 303)) W.heap.size #[.slice none 0 0] 303:=Bk.new _ _ rfl;have d0:=(e7.keep O).cell (i:=0) (v:= .slice a l.length a5) rfl;have g5:Hid (Hp (W.alloc (.cells #[.slice none 0 0] 303)) W.heap.size ((l.take 0).map fun r=>r.1.2)):=⟨_,a6,⟨rfl,.inl ⟨rfl,rfl⟩⟩,by simp[sD.ownBlock]⟩;have x2:cD (W.alloc (.cells #[.slice none 0 0] 303)) W.heap.size=none:=by rw[iO a6];rfl
 have v8:(W.alloc (.cells #[.slice none 0 0] 303)).heap.size=W.heap.size+1:=by simp
 have b4:Hid (Dj W.heap.size m W.heap.size none (W.alloc (.cells #[.slice none 0 0] 303))):=by
  have e:cD (W.alloc (.cells #[.slice none 0 0] 303)) m=cD W m:=aB (O.block m hm);refine⟨hm,xU _,by omega,by omega,(fun q e=>by rw[x2]at e;cases e),(fun q e=>by cases e),fun q e'=>?_⟩;rw[e]at e';have:=ha q e';exact⟨by omega,by omega⟩
 have g8:Hid (J [] (W.alloc (.cells #[.slice none 0 0] 303))):=hJ _ _ _ h0 (tP.below O (xU _) ha);have q5:=(show Hid _ from v8);clear z0 f1 hk h0 a6 e7 ha v8;refine callsIn_of_wp Tryz.func261 rfl trivial ?_ rfl;simp only[Tryz.ntmps261,List.size_toArray,oU,List.length_nil,Nat.reduceAdd,Nat.reduceSub,Array.replicate_succ,Array.replicate_zero,List.push_toArray,List.append_toArray,List.nil_append,List.cons_append]
 gi_wp2
 generalize zF:qV.alloc W _=W1 at*;generalize zW:W.heap.size=hb at*
 gi_loopw [12] (fun i wr=>∃k:Nat,k<=l.length/\i=.int .i64 k/\Hp wr hb ((l.take k).map fun r=>r.1.2)/\HF hb W1 wr) (fun i _=>l.length-(intOf i).toNat)
 case atStart=>exact⟨0,by omega,rfl,g5.out,HF.refl _ _⟩
 case round=>
  obtain⟨k,zD,rfl,hH,hF⟩:=hrel
  by_cases w8:k<l.length
  ·obtain⟨g,off,K,V,A,B,D,rfl,hg,hr,c0,c1,c2,c3,c4⟩:=Q.out k w8;have q0:=vJ O (by omega) hF (by omega) x2 c0;have q1:=vJ O (by omega) hF (by omega) x2 c1;have q2:=vJ O (by omega) hF (by omega) x2 c2;have q3:=vJ O (by omega) hF (by omega) x2 c3;have q4:=vJ O (by omega) hF (by omega) x2 c4;have ii:((k:Int)<(l.length:Int)):=by omega
   have HR:=(show Hid _ from hr);obtain⟨v,R,x6,y4⟩:=hH;have s0:=R.cell (i:=0) (v:=v) rfl;have xE:=R.lt;have HV:=(show Hid (Bk wr hb #[v] 303/\bW wr 0 v ((l.take k).map fun r=>r.1.2)/\v.ownBlock≠some hb) from⟨R,x6,y4⟩);have d8:((l.take k).map fun r=>r.1.2).length=k:=by rw[fM,fQ];omega
   have HZ:Hid ((l.take (k+1)).map (fun r=>r.1.2)=((l.take k).map fun r=>r.1.2)++[(A,B)]):=by
    show _=_;rw[fK HR.out,gQ];rfl
   have a0:pU wr.heap.size wr ((wr.alloc (.cells #[.int .i64 K,.int .i64 V,.int .i64 A,.int .i64 B,.int .i64 D] 55)).alloc (.cells #[.int .i64 A,.int .i64 B] 32)):=aH (aH (AW _ _) _) _;have bt:Bk ((wr.alloc (.cells #[.int .i64 K,.int .i64 V,.int .i64 A,.int .i64 B,.int .i64 D] 55)).alloc (.cells #[.int .i64 A,.int .i64 B] 32)) (wr.heap.size+1) #[.int .i64 A,.int .i64 B] 32:=Bk.new _ _ (by simp);obtain⟨g4,a4,w4,h9,o1,o2,o3,o4⟩:=EO 303 303 Tryz.underlying303 (cC x6 a0) (wr.heap.size+1) A B bt (by omega) (AP _);obtain⟨fz,cz,v2⟩:=Fc R y4 a0 o1 o2 o3 o4;rw[<- HZ.out]at v2;clear c0 c1 c2 c3 c4 hr R x6 y4 o1 o2 o3 o4 a0 bt;rw[d8]at h9 v2;clear d8
   gi_wp2_with (gi_at_builtin;refine rP rfl _ _ _ rfl rfl rfl h9 ?_)
   go_roundw
   case rel=>exact⟨k+1,by omega,by go_num,v2.out.1,hF.trans v2.out.2⟩
   case measure=>simp[intOf];omega
  ·obtain rfl:k=l.length:=by omega
   rw[gD]at hH;have b3:Hid (Dj hb m hb none wr):=b4.out.hf hF;have g7:Hid (J [] wr):=hJ _ _ _ g8.out (b4.out.da hF);clear d0
   gi_wp2
   refine⟨trivial,?_⟩;refine Df (tJ.2 (KK hH (by rw[fM];omega))) ?_;rintro e w2 ⟨rfl,c,z1,y8,y7,M,a2⟩;have ST:Hid (Cn l m hb J (.slice none 0 0) 0 c w2):=⟨⟨rfl,.inl ⟨rfl,rfl⟩⟩,z1,M,pC.start HK.out y7,by rw[y8,fM];omega,b3.out.hf a2,hJ _ _ _ g7.out (b3.out.da a2)⟩;clear z1 y8 y7 M a2 hH hF b3 g7 g5 b4 g8 q5 O x2 Q
   gi_wp2
   gi_loopw [6] (fun p wr=>∃n next,Cn l m hb J p n next wr) (fun p wr=>(64-zL p)*64+zL ((wr.cell? ⟨hb,0,none⟩).getD (.int .i64 0)))
   case atStart=>exact⟨0,c,ST.out⟩
   case round=>
    clear ST;obtain⟨n,next,hS⟩:=hrel;have HS:=(show Hid (Cn l m hb J u6 n next wr) from hS);obtain⟨w3,hH,i5,hP,hX,hD,n6⟩:=hS;have m5:=hP.le;have zE:=nJ l;have x7:((jT l).take n).length=n:=by rw[fQ];omega
    obtain⟨vP,j4,v9⟩:=uI w3;rw[x7]at v9;obtain⟨v,R,x6,y4⟩:=hH;obtain⟨p0,j5,d5⟩:=uI x6;have s0:wr.cell? ⟨hb,0,none⟩=some (.slice p0 next.length j5):=by rw[<- d5];exact R.cell (i:=0) (v:=v) rfl
    have HM:Hid ((64-zL u6)*64+zL ((wr.cell? ⟨hb,0,none⟩).getD (.int .i64 0))=(64-n)*64+next.length):=by
     show _=_;rw[s0,v9];rfl
    clear R x6 y4 d5 w3 i5 hD n6
    by_cases hz:next.length=0
    ·have i4:next=[]:=jB hz;have HE:Hid (n=(jT l).length):=by
      have:=HS.out.pt;rw[i4]at this;exact this.stop
     rw[hz]at s0;clear hP
     gi_wp2
     go_end0
     refine⟨⟨_,rfl⟩,_,rfl,?_⟩;have:=HS.out.jj;rw[HE.out,gD]at this;exact this
    ·have hG:(0:Int)<(next.length:Int):=by omega
     have i3:0<next.length:=by omega
     obtain⟨X,Y,e9⟩:∃X Y,gt next 0=(X,Y):=⟨_,_,rfl⟩;have HG:=(show Hid (gt next 0=(X,Y)) from e9);have HP:=(show Hid (pC l n next) from hP);clear hP e9
     gi_wp2
     refine⟨trivial,?_⟩;refine Df (tJ.2 (Oc HS.out.hp HS.out.low i3 (by omega) HG.out)) ?_;rintro e w1 ⟨rfl,c,z1,y8,y7,M,v0⟩;have ta:=IE X Y w1;have G:pU w1.heap.size w1 (w1.alloc (.cells #[.int .i64 X,.int .i64 Y] 32)):=aH (AW _ _) _;have bx:Bk (w1.alloc (.cells #[.int .i64 X,.int .i64 Y] 32)) w1.heap.size #[.int .i64 X,.int .i64 Y] 32:=Bk.new _ _ rfl;have D1:=HS.out.dj.hf v0;have HD:Hid (Dj hb m hb u6.ownBlock (w1.alloc (.cells #[.int .i64 X,.int .i64 Y] 32))):=D1.below G;have HO:Hid (bW (w1.alloc (.cells #[.int .i64 X,.int .i64 Y] 32)) hb u6 ((jT l).take n)):=cC (HS.out.dj.df v0 HS.out.own) G;have b0:Hid (J ((jT l).take n) (w1.alloc (.cells #[.int .i64 X,.int .i64 Y] 32))):=hJ _ _ _ (hJ _ _ _ HS.out.jj (HS.out.dj.da v0)) (D1.cE G);have HH:Hid (Hp (w1.alloc (.cells #[.int .i64 X,.int .i64 Y] 32)) hb c):=z1.keep G;have Q:Hid (c.length+1=next.length/\(∀x,x∈next↔x=(X,Y)\/x∈c)/\cK c c.length 0):=⟨y8,y7,M⟩;have HX:Hid (w1.heap.size<(w1.alloc (.cells #[.int .i64 X,.int .i64 Y] 32)).heap.size/\u6.ownBlock≠some w1.heap.size/\cD (w1.alloc (.cells #[.int .i64 X,.int .i64 Y] 32)) m≠some w1.heap.size/\cD (w1.alloc (.cells #[.int .i64 X,.int .i64 Y] 32)) hb≠some w1.heap.size/\w1.heap.size≠hb):=by
      have k1:=D1.mB;have k2:=D1.wB;have k3:=D1.hw;refine⟨by simp,fun e=>?_,fun e=>?_,fun e=>?_,by omega⟩
      ·have:=(D1.pp _ e).2.1;omega
      ·rw[aB (G.block m (by omega))]at e;have:=(D1.am _ e).1;omega
      ·rw[aB (G.block hb (by omega))]at e;have:=(D1.ah _ e).2.1;omega
     clear z1 y8 y7 M v0 D1 G s0;subst v9;obtain⟨x0,x1,_,_⟩:=bx.two;have HN:Hid ((n=0/\(X,Y) ∉ (jT l).take n)\/0<n/\((gt (jT l) (n-1)=(X,Y)/\(X,Y)∈(jT l).take n)\/(gt (jT l) (n-1)≠(X,Y)/\(X,Y) ∉ (jT l).take n))):=by
      have y6:(X,Y)∈next:=(Q.out.2.1 _).2 (.inl rfl)
      by_cases y5:n=0
      ·exact .inl ⟨y5,by rw[y5];simp⟩
      ·refine .inr ⟨by omega,?_⟩
       by_cases ht:(X,Y)∈(jT l).take n
       ·exact .inl ⟨(HP.out.last y6 ht).2,ht⟩
       ·exact .inr ⟨fun e=>ht ((jF m5).2 ⟨n-1,by omega,e⟩),ht⟩
     have g9:Hid (Bk (w1.alloc (.cells #[.int .i64 X,.int .i64 Y] 32)) w1.heap.size #[.int .i64 X,.int .i64 Y] 32):=bx;clear bx
     rcases HN.out with⟨y5,z7⟩|⟨y5,⟨U,w6⟩|⟨U,z7⟩⟩
     case' inr.inr=>
      obtain⟨gp,cp,ep,Z,x5⟩:=nZ HO.out (i:=n-1) (by omega);rw[x7]at ep;cases ep;rw[mD (by omega)]at Z x5;have hne:=OV U;generalize (gt (jT l) (n-1)).1=PA at*;generalize (gt (jT l) (n-1)).2=PB at*;have i1:tL.i64.wrap ((n:Int)-1)=((n-1:Nat):Int):=by rw[tL.wrap_i64];omega
      have g0:decide ((0:Int)<(n:Int))=true:=by simp;omega
      have g1:((n-1:Nat):Int)<(n:Int):=by omega
      rcases hne with hne|⟨d4,hne⟩
      case' inr=>rw[d4]at Z;clear d4
     case' inl=>
      have g0:decide ((0:Int)<(n:Int))=false:=by simp;omega
      have o6:decide (0<n)=false:=by simp;omega
      clear y5
     case inr.inl=>
      obtain⟨gp,cp,ep,Z,x5⟩:=nZ HO.out (i:=n-1) (by omega);rw[x7]at ep;cases ep;rw[mD (by omega),U]at Z x5;have i1:tL.i64.wrap ((n:Int)-1)=((n-1:Nat):Int):=by rw[tL.wrap_i64];omega
      have g0:decide ((0:Int)<(n:Int))=true:=by simp;omega
      have g1:((n-1:Nat):Int)<(n:Int):=by omega
      have k7:=(show Hid ((X,Y)∈(jT l).take n) from w6);clear w6 U
      gi_wp2
      gi_quiet (fail)
      have H:pU (w1.alloc (.cells #[.int .i64 X,.int .i64 Y] 32)).heap.size (w1.alloc (.cells #[.int .i64 X,.int .i64 Y] 32)) ((w1.alloc (.cells #[.int .i64 X,.int .i64 Y] 32)).drewN nq):=⟨rfl,rfl,rfl,xU _,fun _ _=>rfl⟩;have ST:Hid (Cn l m hb J (.slice (some ⟨gp,0,none⟩) n j4) n c ((w1.alloc (.cells #[.int .i64 X,.int .i64 Y] 32)).drewN nq)):=⟨cC HO.out H,HH.out.keep H,Q.out.2.2,HP.out.skip k7.out Q.out.2.1,by have:=Q.out.1;omega,HD.out.below H,hJ _ _ _ b0.out (HD.out.cE H)⟩;have a9:Hid ((64-n)*64+c.length<(64-n)*64+next.length):=by show _<_;have:=Q.out.1;omega
      clear H
      gi_wp2
      go_roundw
      case rel=>exact⟨n,c,ST.out⟩
      case measure=>rw[ST.out.eE,HM.out];exact a9.out
     all_goals
      have y6:(X,Y)∈next:=(Q.out.2.1 _).2 (.inl rfl);have z8:∀x∈next,kQ (X,Y) x:=fun x hx=>by rw[<- HG.out];exact Mc HS.out.low hx
      obtain⟨d7,w9⟩:=HP.out.next y6 z8 z7;have S:=(show Hid (((X,Y)∈next/\∀x∈next,kQ (X,Y) x)/\n<(jT l).length/\gt (jT l) n=(X,Y)) from⟨⟨y6,z8⟩,d7,w9⟩);have HT:Hid ((jT l).take (n+1)=(jT l).take n++[(X,Y)]):=by
       show _=_
       rw[nB,<-w9];unfold gt;simp[jO,mO d7]
      clear y6 z8 w9 z7
      gi_wp2
      gi_quiet (fail)
      have H:pU (w1.alloc (.cells #[.int .i64 X,.int .i64 Y] 32)).heap.size (w1.alloc (.cells #[.int .i64 X,.int .i64 Y] 32)) ((w1.alloc (.cells #[.int .i64 X,.int .i64 Y] 32)).drewN nq):=⟨rfl,rfl,rfl,xU _,fun _ _=>rfl⟩;have v1:Hid (Dj _ _ _ _ _):=HD.out.below H;have g6:Hid (bW _ _ _ _):=cC HO.out H;have b2:Hid (Hp _ _ _):=HH.out.keep H;have f4:=hJ _ _ _ b0.out (HD.out.cE H);have y2:Hid (Bk ((w1.alloc (.cells #[.int .i64 X,.int .i64 Y] 32)).drewN nq) w1.heap.size #[.int .i64 X,.int .i64 Y] 32):=g9.out.keep H;have l5:=y2.out.two.1;have l4:=y2.out.two.2.1;have z4:Hid (cD ((w1.alloc (.cells #[.int .i64 X,.int .i64 Y] 32)).drewN nq) m≠some w1.heap.size/\cD ((w1.alloc (.cells #[.int .i64 X,.int .i64 Y] 32)).drewN nq) hb≠some w1.heap.size/\w1.heap.size≠hb/\w1.heap.size≠m/\w1.heap.size<((w1.alloc (.cells #[.int .i64 X,.int .i64 Y] 32)).drewN nq).heap.size):=by
       have k1:=HD.out.mB;have k2:=HD.out.wB;have k3:=HD.out.hw;have k4:=HX.out;refine⟨?_,?_,k4.2.2.2.2,?_,Nat.lt_of_lt_of_le k4.1 H.size⟩
       ·rw[aB (H.block m (by omega))];exact k4.2.2.1
       ·rw[aB (H.block hb (by omega))];exact k4.2.2.2.1
       ·have k5:(w1.alloc (.cells #[.int .i64 X,.int .i64 Y] 32)).heap.size=w1.heap.size+1:=by simp
        have:=k4.2.2.2.2;omega
      obtain⟨fn,tmps,assign,body,hy,hR⟩:=hY ((jT l).take n) (X,Y) _ f4 (by rw[x7];omega) ⟨n,S.out.2.1,rfl,S.out.2.2⟩;clear H f4 HX g9 HH HO HD b0 x0 x1 g0
      try clear o6
      gi_wp2
      refine hR.mono ?_;rintro e W3 ⟨rfl,a1,x8⟩;obtain⟨f5,f7⟩:=v1.out.ec x8 b2.out;have f3:bW W3 hb _ _:=v1.out.dq x8 g6.out;have e6:=x8.bk y2.out z4.out.2.2.2.1 z4.out.1;have e8:cD W3 hb≠some w1.heap.size:=by
       have e1:=x8;obtain⟨v,q1,q2,q3⟩:=b2.out;have q4:=(v1.out.ei x8 q1).1;rw[iO q4,<-iO q1];exact z4.out.2.1
      have d9:w1.heap.size≠hb:=z4.out.2.2.1;rw[<- HT.out]at a1;clear hR hy l5 l4 v1 g6 b2 y2 z4 x8;obtain⟨pv,d6,f2,f6⟩:=Mz f3 f7;have g3:=(show Hid (_=pv) from d6);have f0:Cm l m hb w1.heap.size J pv n c X Y 0 c W3:=⟨f2,f5,Q.out.2.2,rfl,fun x=>by simp,f6,a1,e6,e8,d9⟩;have f9:=(show Hid (Cm l m hb w1.heap.size J pv n c X Y 0 c W3) from f0);clear d6 f3 f7 f2 f6 f5 a1 e6 e8 d9 f0;generalize w1.heap.size=bt at*
      gi_wp2
      gi_loopw [49] (fun i wr=>∃(k:Nat)(c':LI),k<=n/\i=.int .i64 k/\Cm l m hb bt J pv n c X Y k c' wr) (fun i _=>n-(intOf i).toNat)
      case atStart=>exact⟨0,c,by omega,rfl,f9.out⟩
      case round=>
       clear f9;obtain⟨k,c',zB,rfl,I⟩:=hrel;have HI:=(show Hid (Cm l m hb bt J pv n c X Y k c' wr) from I)
       by_cases w8:k<n
       ·obtain⟨g2,vI,e2,Z,x5⟩:=nZ I.own (i:=k) (by omega);rw[x7]at e2;rw[mD w8]at Z x5;have e3:=g3.out.trans e2;cases e3;have r1:Hid ((k9 (gt (jT l) k).1 (gt (jT l) k).2 X Y,kA (gt (jT l) k).1 (gt (jT l) k).2 X Y)=jU (gt (jT l) k) (X,Y)):=by
         have h1:=S.out.2;exact Ey (iY (by omega)) (show (X,Y)∈jT l by rw[<- h1.2];exact iY h1.1)
        have ik:(k:Int)<(n:Int):=by omega
        generalize hA:(gt (jT l) k).1=A at*;generalize hB:(gt (jT l) k).2=B at*;have G:pU wr.heap.size wr (wr.alloc (.cells #[.int .i64 A,.int .i64 B] 32)):=aH (AW _ _) _;obtain⟨y0,y1,_,_⟩:=(I.bx.keep G).two;have i8:=I.len;have r0:Hid (c'.length+1<=1000000):=by show _<=_;have:=Q.out.1;omega
        clear I hA hB i8 e2
        gi_wp2
        refine⟨trivial,?_⟩;refine Df (tJ.2 (yG A B X Y _)) ?_;rintro e w5 ⟨rfl,e5⟩;have e4:=aG G e5;have i0:=(show Hid (pU wr.heap.size wr w5) from e4);clear G e5 e4 y0 y1 Z x5
        gi_wp2
        refine⟨trivial,?_⟩;refine Df (tJ.2 (KL (X:=k9 A B X Y) (Y:=kA A B X Y) (HI.out.hp.keep i0.out) HI.out.low r0.out)) ?_;rintro e w7 ⟨rfl,c7,p1,p2,p3,p4,p5⟩;have k0:Hid (Cm l m hb bt J _ n c X Y (k+1) c7 w7):=HI.out.step hJ i0.out p5 p1 p2 (fun x=>by rw[p3,r1.out]) p4;clear p1 p2 p3 p4 p5
        gi_wp2
        go_roundw
        case rel=>exact⟨k+1,c7,by omega,by go_num,k0.out⟩
        case measure=>simp[intOf];omega
       ·obtain rfl:k=n:=by omega
        have G:pU wr.heap.size wr (wr.alloc (.cells #[.int .i64 X,.int .i64 Y] 32)):=aH (AW _ _) _;have f8:Bk (wr.alloc (.cells #[.int .i64 X,.int .i64 Y] 32)) wr.heap.size #[.int .i64 X,.int .i64 Y] 32:=Bk.new _ _ rfl;obtain⟨y0,y1,_,_⟩:=I.bx.two;obtain⟨g4,a4,w4,h9,o1,o2,o3,o4⟩:=EO 27 27 Tryz.underlying27 (cC I.own G) wr.heap.size X Y f8 (by omega) (by have:=I.dj.wB;have:=G.size;omega);have z9:Hid (Cn l m hb J (.slice (some ⟨g4,0,none⟩) (((jT l).take k).length+1) a4) (k+1) c' w4):=
         Me HP.out S.out.1.1 S.out.1.2 S.out.2.1 S.out.2.2 HS.out.le ⟨Q.out.1,Q.out.2.1⟩ I.len I.mem I.low (I.hp.keep G) (I.dj.below G) hJ (hJ _ _ _ I.jj (I.dj.cE G)) o2 (by
          rcases o3 with o3|o3
          ·exact .inl (by rw[o3];rfl)
          ·exact .inr ⟨by rw[<- o3];rfl,by omega⟩) o1
        have a9:Hid ((64-(k+1))*64+c'.length<(64-k)*64+next.length):=by show _<_;have:=Q.out.1;have:=I.len;have:=S.out.2.1;omega
        have e3:=g3.out;subst e3;clear o1 o2 o3 o4 G f8 I;rw[x7]at h9 z9
        gi_wp2_with (gi_at_builtin;refine rP rfl _ _ _ rfl rfl rfl h9 ?_)
        go_roundw
        case rel=>exact⟨k+1,c',z9.out⟩
        case measure=>rw[z9.out.eE,HM.out];exact a9.out
attribute [local go_sem] Oper.semAt_some
theorem BH (a:Option tN)(n g:Nat)(w:qV):
  tM C5 245 #[.slice a n g] w fun e s=>e=.returned (.func (.func 261) #[] #[.pointer (some ⟨w.heap.size,0,none⟩)])/\s=w.alloc (.cells #[.slice a n g] 28):=by
 go_enter Tryz.func245,Tryz.ntmps245;go_wp2_with fail;go_ret;exact⟨rfl,rfl⟩
theorem yV {l:List Rw}{r:Rw}{key:Int}(h:l[k]?=some r)(e:r.1.1.1=key):aY (l.take (k+1)) key=aY (l.take k) key++[r]:=by
 unfold aY;rw[fK h,iP];simp[e]
theorem Ai {l:List Rw}{r:Rw}{key:Int}(h:l[k]?=some r)(e:r.1.1.1≠key):aY (l.take (k+1)) key=aY (l.take k) key:=by
 unfold aY;rw[fK h,iP];simp[e]
theorem rG (l:List Rw)(key:Int):(aY l key).length<=l.length:=nA _ _
theorem xI {l:List Rw}(h:aZ l=true)(key:Int):aZ (aY l key)=true:=
 vT (xV (rG l key) (i6 h)) fun _ hr=>eZ h (List.mem_filter.1 hr).1
theorem JJ (v:sD)(l:List Rw)(key:Int)(w:qV)(h:Rs w v l)(hl:l.length<=400):
  tM C5 225 #[v,.int .i64 key] w fun e S=>∃o:sD,e=.returned o/\aC S w.heap.size o (aY l key)/\pU w.heap.size w S:=by
 obtain⟨a,x9,rfl,hc,hm,hn,s⟩:=Rs.open h;unfold maxLen at hm;have HC:=(show Hid _ from s);clear s h;go_enter Tryz.func225,Tryz.ntmps225;go_wp2_with fail
 go_loopw [5,10] (fun o b wr=>∃k:Nat,k<=l.length/\b=.int .i64 k/\aC wr w.heap.size o (aY (l.take k) key)/\pU w.heap.size w wr) (fun _ b _=>l.length-(intOf b).toNat)
 case atStart=>exact⟨0,by omega,rfl,by simpa[aY]using oN _ _ _ _ _,AW _ _⟩
 case round=>
  obtain⟨k,hk,rfl,G,hb⟩:=hrel;have I:Hid (aC wr w.heap.size u5 (aY (l.take k) key)):=G;have x4:(aY (l.take k) key).length<=400:=xV (rG _ _) (by rw[fQ];omega);have x3:=hb.size
  by_cases U:k<l.length
  ·obtain⟨g,off,K,V,A,B,D,rfl,hg,hr,c0,c1,c2,c3,c4⟩:=HC.out k U;have HR:=(show Hid _ from hr);have q0:=cB hb c0;have q1:=cB hb c1;have q2:=cB hb c2;have q3:=cB hb c3;have q4:=cB hb c4;have ii:((k:Int)<(l.length:Int)):=by omega
   have H:pU wr.heap.size wr (wr.alloc (.cells #[.int .i64 K,.int .i64 V,.int .i64 A,.int .i64 B,.int .i64 D] 55)):=aH (AW _ _) _;clear c0 c1 c2 c3 c4 hr G
   by_cases O:K=key
   ·have R:Hid (aY (l.take (k+1)) key=aY (l.take k) key++[(((K,V),(A,B)),D)]):=yV HR.out O;subst O;have O2:aC (wr.alloc (.cells #[.int .i64 K,.int .i64 V,.int .i64 A,.int .i64 B,.int .i64 D] 55)) w.heap.size u5 (aY (l.take k) K):=cC I.out H;have h9:=aG hb H;generalize aY (l.take k) K=l1 at*
    go_wp2_with (at_builtin;refine kR _ rfl _ _ rfl w.heap.size _ _ rfl (O2.alloc _) _ _ _ _ _ _ rfl (Bk.new _ _ (by simp)) (by omega) (by simp;omega) ?_;intro g3 x5 w3 Q M x8)
    have Z:pU w.heap.size w w3:=Below.aU (aH h9 _) M (by simp;omega) (kK I.out);go_roundw
    case rel=>exact⟨k+1,by omega,by go_num,by rw[R.out];exact Q,Z⟩
    case measure=>simp[intOf];omega
   ·have R:Hid (aY (l.take (k+1)) key=aY (l.take k) key):=Ai HR.out O;have nx:(K==key)=false:=beq_eq_false_iff_ne.2 O;go_wp2_with fail;go_roundw
    case rel=>exact⟨k+1,by omega,by go_num,by rw[R.out];exact cC I.out H,aG hb H⟩
    case measure=>simp[intOf];omega
  ·obtain rfl:k=l.length:=by omega
   rw[gD]at I;clear G;go_wp2_with fail;go_ret;exact⟨_,rfl,I.out,hb⟩
theorem Im (A m:Nat)(a:Option tN)(s:Nat)(l:List Rw)(w0:qV)(I:aZ l=true)(G:Rs w0 (.slice a l.length s) l)(D:Bk w0 A #[.slice a l.length s] 28)(hm:m<w0.heap.size)(ha:∀q,cD w0 m=some q->q<w0.heap.size):
  EA m Fence.wide 3 C5 261 #[.pointer (some ⟨A,0,none⟩)] (fun t:Int×Int=>#[tv t.1 t.2]) (fun xs=>xs=jT l) (RK l) 64 w0:=
 fun H J W g O M h0=>Il H A m a s l J W O M I (G.keep g) (D.keep g) (by have:=g.size;omega)
  (fun q e=>by rw[aB (g.block m hm)]at e;have:=ha q e;have:=g.size;omega) h0
attribute [local go_sem] Oper.semAt_some
theorem nL (v:sD)(T:LI)(X Y:Int)(w:qV)(h:Ts w v T):
  tM C5 268 #[v,tv X Y] w fun e w'=>e=.returned (.bool (decide ((X,Y)∈T)))/\pU w.heap.size w w':=by
 obtain⟨a,x5,rfl,hc,hm,hn,s⟩:=h;unfold maxLen at hm;have HC:=(show Hid _ from s);have U:pU w.heap.size w (w.alloc (.cells #[.int .i64 X,.int .i64 Y] 32)):=aH (AW _ _) _;have bx:Bk (w.alloc (.cells #[.int .i64 X,.int .i64 Y] 32)) w.heap.size #[.int .i64 X,.int .i64 Y] 32:=Bk.new _ _ rfl;clear s;go_enter Tryz.func268,Tryz.ntmps268;go_wp2_with fail;generalize w.alloc (.cells #[.int .i64 X,.int .i64 Y] 32)=w1 at*
 go_loopw [5] (fun i wr=>∃k:Nat,k<=T.length/\i=.int .i64 k/\(∀j,j<k->gt T j≠(X,Y))/\pU w1.heap.size w1 wr) (fun i _=>T.length-(intOf i).toNat)
 case atStart=>exact⟨0,by omega,rfl,fun j H=>by omega,AW _ _⟩
 case round=>
  obtain⟨k,hk,rfl,M,hb⟩:=hrel;have G:=(show Hid (∀j,j<k->gt T j≠(X,Y)) from M);have A:=aG U hb;clear M
  by_cases O:k<T.length
  ·obtain⟨g,off,rfl,hg,Z,c1⟩:=HC.out k O;have V:=cB A Z;have d1:=cB A c1;obtain⟨x0,x1,_,_⟩:=(bx.keep hb).two;have ik:(k:Int)<(T.length:Int):=by omega
   have R:Hid (gt T k=(tA T k,tB T k)):=Nq T k;clear Z c1
   by_cases D:tA T k=X
   ·by_cases I:tB T k=Y
    ·have Q:Hid (decide ((X,Y)∈T)=true):=by show _=_;rw[decide_eq_true_eq,<-D,<-I,<-R.out];exact iY O
     rw[D]at V;rw[I]at d1;go_wp2_with fail
     go_quiet (fail)
     go_wp2_with fail;go_ret;exact⟨by rw[Q.out];rfl,aG A ⟨rfl,rfl,rfl,xU _,fun _ _=>rfl⟩⟩
    ·have S:Hid (gt T k≠(X,Y)):=fun e=>I (by rw[R.out]at e;exact (Prod.mk.inj e).2);have ny:(tB T k==Y)=false:=beq_eq_false_iff_ne.2 I;rw[D]at V;generalize tB T k=Y' at *;go_wp2_with fail
     go_quiet (fail)
     go_wp2_with fail;go_roundw
     case rel=>exact⟨k+1,by omega,by go_num,(fun j H=>by by_cases e:j=k;(rw[e];exact S.out);exact G.out j (by omega)),aG hb ⟨rfl,rfl,rfl,xU _,fun _ _=>rfl⟩⟩
     case measure=>simp[intOf];omega
   ·have S:Hid (gt T k≠(X,Y)):=fun e=>D (by rw[R.out]at e;exact (Prod.mk.inj e).1);have nx:(tA T k==X)=false:=beq_eq_false_iff_ne.2 D;generalize tA T k=X' at *;generalize tB T k=Y' at *;go_wp2_with fail
    go_quiet (fail)
    go_wp2_with fail;go_roundw
    case rel=>exact⟨k+1,by omega,by go_num,(fun j H=>by by_cases e:j=k;(rw[e];exact S.out);exact G.out j (by omega)),aG hb ⟨rfl,rfl,rfl,xU _,fun _ _=>rfl⟩⟩
    case measure=>simp[intOf];omega
  ·obtain rfl:k=T.length:=by omega
   have Q:Hid (decide ((X,Y)∈T)=false):=by
    show _=_
    rw[decide_eq_false_iff_not];intro e;obtain⟨j,H,e⟩:=qC e;exact G.out j H e
   go_wp2_with fail;go_ret;exact⟨by rw[Q.out];rfl,A⟩
theorem sA (h:bW w B v l):∃ad a,v=.slice ad l.length a:=by
 rcases mZ h with⟨rfl,rfl⟩|⟨g,a,c,rfl,_⟩
 ·exact⟨_,_,rfl⟩
 ·exact⟨_,_,rfl⟩
theorem Ac:∀(T G:LI),T.Nodup->(∀x∈T,x∈G)->T.length<=G.length
 | [],_,_,_=>AP _
 | x::T,G,h,hs=>by
  rw[List.nodup_cons]at h;have hx:=hs x (by simp);have h1:=Ac T (G.erase x) h.2 (fun y a=>(List.mem_erase_of_ne (fun e=>h.1 (by rw[<- e];exact a))).2 (hs y (by simp[a])));have h2:=List.length_erase_of_mem hx;have h3:=List.length_pos_of_mem hx;simp only[oU];omega
structure mJ (l:List Rw)(T:LI)(i j:Nat):Prop where
 nd:T.Nodup
 inn:∀x∈T,x∈jT l
 rows:∀r∈l,r.1.2∈T
 joins:∀p q,p<i->q<p->jU (gt T p) (gt T q)∈T
 part:∀q,q<j->jU (gt T i) (gt T q)∈T
theorem mJ.len {l:List Rw}(h:mJ l T i j):T.length<=64:=xV (Ac T _ h.nd h.inn) (nJ l)
theorem mJ.outer {l:List Rw}(h:mJ l T i i):mJ l T (i+1) 0:=
 ⟨h.nd,h.inn,h.rows,fun p q hp hq=>by
  by_cases e:p=i
  ·subst e;exact h.part q hq
  ·exact h.joins p q (by omega) hq,fun q hq=>by omega⟩
theorem mJ.same {l:List Rw}(h:mJ l T i j)(a:jU (gt T i) (gt T j)∈T):mJ l T i (j+1):=
 ⟨h.nd,h.inn,h.rows,h.joins,fun q hq=>by
  by_cases e:q=j
  ·subst e;exact a
  ·exact h.part q (by omega)⟩
theorem mJ.more {l:List Rw}(h:mJ l T i j)(hi:i<T.length)(s:j<i)(g:jU (gt T i) (gt T j) ∉ T):mJ l (T++[jU (gt T i) (gt T j)]) i (j+1):=by
 have hg:∀p,p<T.length->gt (T++[jU (gt T i) (gt T j)]) p=gt T p:=fun p hp=>C6 hp;refine⟨?_,fun x hx=>?_,fun r hr=>gX _ (h.rows r hr),fun p q hp hq=>?_,fun q hq=>?_⟩
 ·rw[nT];refine⟨h.nd,by simp,fun a ha b hb=>?_⟩;simp at hb;subst hb;intro e;subst e;exact g ha
 ·rcases gM.1 hx with hx|hx
  ·exact h.inn x hx
  ·simp at hx;subst hx;exact Hk (h.inn _ (iY hi)) (h.inn _ (iY (by omega)))
 ·rw[hg p (by omega),hg q (by omega)];exact gX _ (h.joins p q hp hq)
 ·rw[hg i hi,hg q (by omega)]
  by_cases e:q=j
  ·subst e;simp
  ·exact gX _ (h.part q (by omega))
theorem mJ.fin {l:List Rw}(h:mJ l T i 0)(hi:T.length<=i):wJ.filter (fun t=>decide (t∈T))=jT l:=by
 unfold jT;refine List.filter_congr fun t I=>?_;rw[Bool.eq_iff_iff,decide_eq_true_eq];constructor
 ·intro e;exact (kX.1 (h.inn t e)).2
 ·intro e;rw[sJ]at e;obtain⟨p,hp,q,hq,H,G⟩:=e;obtain⟨a,ha,D⟩:=qC (h.rows p hp);obtain⟨b,hb,A⟩:=qC (h.rows q hq);have s:jU p.1.2 q.1.2=t:=Prod.ext H G;rw[<- s,<-D,<-A]
  rcases Nat.lt_trichotomy a b with g|g|g
  ·rw[Ex];exact h.joins b a (by omega) g
  ·subst g;rw[Ez];exact iY ha
  ·exact h.joins a b (by omega) g
theorem Bb (w:qV)(a:B=w.heap.size):bW (w.alloc (.cells #[] 32)) B (.slice (some ⟨B,0,none⟩) 0 0) []:=by
 subst a;exact kZ w _ 2
structure nV (l:List Rw)(T:LI):Prop where
 nd:T.Nodup
 mem:∀x,x∈T↔x∈l.map fun r=>r.1.2
theorem nV.len {l:List Rw}(h:nV l T):T.length<=l.length:=by
 have:=Ac T _ h.nd (fun x hx=>(h.mem x).1 hx);rw[fM]at this;exact this
theorem nV.nil:nV [] []:=⟨by simp,by simp⟩
theorem nV.yes {l:List Rw}{r:Rw}(h:nV l T)(hr:r.1.2∈T):nV (l++[r]) T:=⟨h.nd,fun x=>by
 rw[h.mem,gQ,gM];constructor
 ·exact .inl
 ·rintro (e|e)
  ·exact e
  ·simp at e;subst e;exact (h.mem _).1 hr⟩
theorem nV.no {l:List Rw}{r:Rw}(h:nV l T)(hr:r.1.2 ∉ T):nV (l++[r]) (T++[r.1.2]):=⟨by
 rw[nT];refine⟨h.nd,by simp,fun a ha b hb=>?_⟩;simp at hb;subst hb;intro e;subst e;exact hr ha,fun x=>by
 rw[gQ,gM,gM,h.mem];simp⟩
theorem nV.start {l:List Rw}(h:nV l T)(a:aZ l=true):mJ l T 0 0:=
 ⟨h.nd,fun x hx=>by
  obtain⟨r,hr,rfl⟩:=List.mem_map.1 ((h.mem x).1 hx);exact Hl a hr,fun r hr=>(h.mem _).2 (List.mem_map_of_mem hr),fun p q hp=>by omega,fun q hq=>by omega⟩
theorem NO (a b:Nat):fE a (b+1)=fE a b++[((a:Int),(b:Int))]:=by
 unfold fE;rw[oW,gQ];rfl
theorem IF (a:Nat):iK (a+1)=iK a++fE a 8:=by
 unfold iK;rw[oW,List.flatMap_append];simp
theorem B6:∀x:Nat,(iK x).length=x*8
 | 0=>rfl
 | x+1=>by rw[IF,iM,B6 x];unfold fE;rw[fM,nX];omega
theorem RU {x y:Nat}(hx:x<=8)(a:y<=8)(p:Int×Int->Bool):((iK x++fE x y).filter p).length<=2000000:=by
 have h1:=nA p (iK x++fE x y);have h2:(fE x y).length=y:=by unfold fE;rw[fM,nX]
 rw[iM,B6,h2]at h1;omega
theorem zU (v:sD)(l:List Rw)(key:Int)(w:qV)(h:Rs w v l):
  tM C5 255 #[v,.int .i64 key] w fun e w'=>∃o:sD,e=.returned o/\bW w' w.heap.size o (sH l key)/\pU w.heap.size w w':=by
 have HH:=(show Hid (Rs w v l) from h);obtain⟨a,k5,rfl,hc,hm,hn,y8⟩:=Rs.open h;unfold maxLen at hm;have HC:=(show Hid _ from y8);clear y8 h;obtain⟨L,g1,HL⟩:∃L,Hid (sH l key=jT L)/\Hid (aZ L=true/\(aZ l=true->L=aY l key)/\(aZ l=false->L=[])):=by
  cases hk:aZ l
  ·exact⟨[],by show _=_;unfold sH jT;rw[hk];exact (List.filter_eq_nil_iff.2 (fun x _=>by simp[BE])).symm,by decide,by simp,by simp⟩
  ·exact⟨aY l key,by show _=_;unfold sH;rw[hk];rfl,xI hk key,by simp,by simp⟩
 have b5:pU w.heap.size w (w.alloc (.cells #[] 32)):=aH (AW _ _) _;have b7:Hid (bW (w.alloc (.cells #[] 32)) w.heap.size (.slice (some ⟨w.heap.size,0,none⟩) 0 0) []):=Bb w rfl;go_enter Tryz.func255,Tryz.ntmps255;go_wp2_with fail
 go_loopw [5,6] (fun o b wr=>∃(k:Nat)(T:LI),k<=l.length/\b=.int .i64 k/\(0<k->aZ l=true)/\bW wr w.heap.size o T/\nV (aY (l.take k) key) T/\pU w.heap.size w wr) (fun _ b _=>l.length-(intOf b).toNat)
 case atStart=>exact⟨0,[],by omega,rfl,by omega,b7.out,by simpa[aY]using nV.nil,b5⟩
 case round=>
  clear b7 b5;obtain⟨k,T,hk,rfl,w5,s,hT,hb⟩:=hrel;have M:Hid (bW wr w.heap.size u5 T):=s;have HT:Hid (nV (aY (l.take k) key) T):=hT;have HK:Hid (0<k->aZ l=true):=w5;have f3:T.length<=2000000:=by
   have h1:=hT.len;have h2:=rG (l.take k) key;rw[fQ]at h2
   by_cases h0:0<k
   ·have:=i6 (w5 h0);omega
   ·omega
  obtain⟨y4,h9,rfl⟩:=sA s;have d6:=hb.size;clear s hT w5
  by_cases v3:k<l.length
  case' pos=>
   have ii:((k:Int)<(l.length:Int)):=by omega
   cases U:aZ l
  case pos.true=>
   obtain⟨g,off,K,V,A,B,D,rfl,hg,hr,c0,c1,c2,c3,c4⟩:=HC.out k v3;have HR:=(show Hid _ from hr);have q0:=cB hb c0;go_wp2_with fail;refine (sR U (HH.out.keep hb)).mono ?_;rintro e w1 ⟨rfl,x9⟩;have x3:=aG hb x9;have q0:=cB x3 c0;have q2:=cB x3 c2;have q3:=cB x3 c3;have y5:Hid (bW w1 w.heap.size (.slice y4 T.length h9) T):=cC M.out x9;have i9:=x3.size;clear c0 c1 c2 c3 c4 hr hb x9 M
   by_cases hK:K=key
   ·have HZ:=(show Hid (aY (l.take (k+1)) key=aY (l.take k) key++[(((K,V),(A,B)),D)]) from yV HR.out hK);subst hK
    by_cases R:(A,B)∈T
    ·have HN:Hid (nV (aY (l.take (k+1)) K) T):=by show nV _ _;rw[HZ.out];exact HT.out.yes R
     have hd:decide ((A,B)∈T)=true:=by simp[R]
     go_wp2_with fail;refine (nL _ T A B w1 (bW.ts y5.out (by omega))).mono ?_;rw[hd];rintro e w2 ⟨rfl,x5⟩;have y7:=aG x3 x5;have f8:Hid (bW w2 w.heap.size (.slice y4 T.length h9) T):=cC y5.out x5;clear x5 x3;go_wp2_with fail;go_roundw
     case rel=>exact⟨k+1,T,by omega,by go_num,(fun _=>by first|exact U|trivial),f8.out,HN.out,y7⟩
     case measure=>simp[intOf];omega
    ·have HN:Hid (nV (aY (l.take (k+1)) K) (T++[(A,B)])):=by show nV _ _;rw[HZ.out];exact HT.out.no R
     have hd:decide ((A,B)∈T)=false:=by simp[R]
     go_wp2_with fail;refine (nL _ T A B w1 (bW.ts y5.out (by omega))).mono ?_;rw[hd];rintro e w2 ⟨rfl,x5⟩;have q2:=cB x5 q2;have q3:=cB x5 q3;have y7:=aG x3 x5;have OW:=cC y5.out x5;have i8:=y7.size;have HB:=kK OW;clear x5 x3 y5
     go_wp2_with (at_builtin;refine IV _ rfl _ _ rfl w.heap.size _ T rfl (OW.alloc _) _ A B rfl (Bk.new _ _ rfl) (by omega) (by simp;omega) ?_;intro g3 j4 w3 d4 x2 b3)
     have I:pU w.heap.size w w3:=Below.aU (aH y7 _) x2 (by simp;omega) HB;go_roundw
     case rel=>exact⟨k+1,T++[(A,B)],by omega,by go_num,(fun _=>by first|exact U|trivial),d4,HN.out,I⟩
     case measure=>simp[intOf];omega
   ·have HZ:Hid (aY (l.take (k+1)) key=aY (l.take k) key):=Ai HR.out hK;have nx:(K==key)=false:=beq_eq_false_iff_ne.2 hK;go_wp2_with fail;go_roundw
    case rel=>exact⟨k+1,T,by omega,by go_num,(fun _=>by first|exact U|trivial),y5.out,by rw[HZ.out];exact HT.out,x3⟩
    case measure=>simp[intOf];omega
  case' pos.false=>
   go_wp2_with fail;refine (sR U (HH.out.keep hb)).mono ?_;rintro e w1 ⟨rfl,x9⟩;have HG:Hid (bW w1 w.heap.size (.slice y4 T.length h9) T/\mJ L T 0 0/\pU w.heap.size w w1):=by
    have f1:k=0:=by
     by_cases e:0<k
     ·have:=HK.out e;rw[U]at this;cases this
     ·omega
    have:=HT.out;rw[f1]at this;rw[HL.out.2.2 U];exact⟨cC M.out x9,nV.start (by simpa[aY]using this) (by decide),aG hb x9⟩
   clear x9
  case' neg=>
   obtain rfl:k=l.length:=by omega
   have HG:Hid (bW wr w.heap.size (.slice y4 T.length h9) T/\mJ L T 0 0/\pU w.heap.size w wr):=by
    have U:aZ l=true:=by
     by_cases e:0<l.length
     ·exact HK.out e
     ·have:l=[]:=jB (by omega);subst this;decide
    have:=HT.out;rw[gD]at this;rw[HL.out.2.1 U];exact⟨M.out,nV.start this (xI U key),hb⟩
  all_goals
   clear M HT HK hb d6 HH HC;go_wp2_with fail
   go_loopw [5,7] (fun o b wr=>∃(i:Nat)(T:LI),i<=T.length/\b=.int .i64 i/\bW wr w.heap.size o T/\mJ L T i 0/\pU w.heap.size w wr) (fun _ b _=>64-(intOf b).toNat)
   case atStart=>exact⟨0,T,by omega,rfl,HG.out.1,HG.out.2.1,HG.out.2.2⟩
   case round=>
    clear HG f3;obtain⟨i,T,hi,rfl,s,hG,hb⟩:=hrel;have w9:=hG.len;obtain⟨y4,h9,rfl⟩:=sA s;have M:Hid (bW wr w.heap.size (.slice y4 T.length h9) T):=s;have HG:Hid (mJ L T i 0):=hG;clear s hG
    by_cases v3:i<T.length
    ·have ii:((i:Int)<(T.length:Int)):=by omega
     go_wp2_with fail
     go_loopw [5,8] (fun o b wr=>∃(j:Nat)(T:LI),j<=i/\i<T.length/\b=.int .i64 j/\bW wr w.heap.size o T/\mJ L T i j/\pU w.heap.size w wr) (fun _ b _=>i-(intOf b).toNat)
     case atStart=>exact⟨0,T,by omega,v3,rfl,M.out,HG.out,hb⟩
     case round=>
      clear HG M hb ii v3 w9;obtain⟨j,H,k2,v4,rfl,s,hG,hb⟩:=hrel;have w9:=hG.len
      by_cases d8:j<i
      ·obtain⟨g2,a0,e2,b2,b1⟩:=nZ s v4;obtain⟨k3,j3,f4,b0,a9⟩:=nZ s (i:=j) (by omega);subst e2;cases f4;have M:Hid (bW wr w.heap.size (.slice (some ⟨g2,0,none⟩) H.length a0) H):=s;have HG:Hid (mJ L H i j):=hG;have HJ:Hid ((k9 (gt H i).1 (gt H i).2 (gt H j).1 (gt H j).2,kA (gt H i).1 (gt H i).2 (gt H j).1 (gt H j).2)=jU (gt H i) (gt H j)):=Ey (hG.inn _ (iY v4)) (hG.inn _ (iY (by omega)));have ii:((i:Int)<(H.length:Int)):=by omega
       have ij:((j:Int)<(H.length:Int)):=by omega
       have ji:((j:Int)<(i:Int)):=by omega
       clear s hG;generalize (gt H i).1=A at*;generalize (gt H i).2=B at*;generalize (gt H j).1=Q at*;generalize (gt H j).2=O at*;have HX:Hid (∀W,pU wr.heap.size wr W->(W.cell? ⟨g2,i*2,none⟩=some (.int .i64 A)/\W.cell? ⟨g2,i*2+1,none⟩=some (.int .i64 B))/\W.cell? ⟨g2,j*2,none⟩=some (.int .i64 Q)/\W.cell? ⟨g2,j*2+1,none⟩=some (.int .i64 O)):=fun W hW=>⟨⟨cB hW b2,cB hW b1⟩,cB hW b0,cB hW a9⟩;have y6:pU wr.heap.size wr wr.drew:=(AW _ _).drew;have g6:Hid (∀W wc,pU wr.heap.size wr W->pU W.heap.size W wc->pU wr.heap.size wr wc):=fun W wc h1 h2=>aG h1 h2;have b8:Hid (∀wc,pU (wr.alloc (.cells #[.int .i64 0,.int .i64 0] 32)).drew.heap.size (wr.alloc (.cells #[.int .i64 0,.int .i64 0] 32)).drew wc->pU wr.heap.size wr wc/\wc.frozen? ⟨wr.heap.size,0,none⟩=false/\wc.frozen? ⟨wr.heap.size,1,none⟩=false/\wc.cell? ⟨wr.heap.size,0,none⟩=some (.int .i64 0)/\wc.cell? ⟨wr.heap.size,1,none⟩=some (.int .i64 0)/\Hid (Bk wc wr.heap.size #[.int .i64 0,.int .i64 0] 32)):=fun wc x8=>by
        have hz:Bk wc wr.heap.size #[.int .i64 0,.int .i64 0] 32:=((Bk.new (w:=wr) _ _ rfl).drew).keep x8;exact⟨aG ((aH (AW _ _) _).drew) x8,hz.free 0,hz.free 1,hz.two.1,hz.two.2.1,hz⟩
       go_wp2_with fail
       go_region_held3 (fun W=>(W.cell? ⟨g2,i*2,none⟩=some (.int .i64 A)/\W.cell? ⟨g2,i*2+1,none⟩=some (.int .i64 B))/\W.cell? ⟨g2,j*2,none⟩=some (.int .i64 Q)/\W.cell? ⟨g2,j*2+1,none⟩=some (.int .i64 O))
        (first|exact HX.out _ S|exact HX.out _ y6|exact HX.out _ (aH S _)|exact HX.out _ (aH y6 _)|exact HX.out _ (aH (AW _ _) _).drew|exact HX.out _ ((S.setCell (xU _) _).setCell (xU _) _))
        (first
         | (go_at_call 130;with_reducible refine (n7 A B Q O _).mono ?_;rintro e wc ⟨rfl,x8⟩;have S:pU wr.heap.size wr wc:=aG y6 (id (α:=pU wr.drew.heap.size wr.drew wc) x8))
         | (go_at_call 130;with_reducible refine (n7 A B Q O _).mono ?_;rintro e wc ⟨rfl,x8⟩;obtain⟨S,z0,z1,z2,z3,ZB⟩:=b8.out wc x8))
       all_goals
        first
         | (have FB:Hid (pU wr.heap.size wr ((wc.setCell ⟨wr.heap.size,0,none⟩ (.int .i64 (k9 A B Q O))).setCell ⟨wr.heap.size,1,none⟩ (.int .i64 (kA A B Q O)))):=(S.setCell (xU _) _).setCell (xU _) _
            have FK:Hid (Bk ((wc.setCell ⟨wr.heap.size,0,none⟩ (.int .i64 (k9 A B Q O))).setCell ⟨wr.heap.size,1,none⟩ (.int .i64 (kA A B Q O))) wr.heap.size #[.int .i64 (k9 A B Q O),.int .i64 (kA A B Q O)] 32):=ZB.out.ai _ _;clear z0 z1 z2 z3 ZB;generalize ((wc.setCell ⟨wr.heap.size,0,none⟩ (.int .i64 (k9 A B Q O))).setCell ⟨wr.heap.size,1,none⟩ (.int .i64 (kA A B Q O)))=W5 at*)
         | (have FB:Hid (pU wr.heap.size wr (wc.alloc (.cells #[.int .i64 (k9 A B Q O),.int .i64 (kA A B Q O)] 32))):=aH S _
            have FK:Hid (Bk (wc.alloc (.cells #[.int .i64 (k9 A B Q O),.int .i64 (kA A B Q O)] 32)) wc.heap.size #[.int .i64 (k9 A B Q O),.int .i64 (kA A B Q O)] 32):=Bk.new _ _ rfl;generalize (wc.alloc (.cells #[.int .i64 (k9 A B Q O),.int .i64 (kA A B Q O)] 32))=W5 at*)
        have z8:Hid (bW W5 w.heap.size (.slice (some ⟨g2,0,none⟩) H.length a0) H):=cC M.out FB.out;have v5:pU w.heap.size w W5:=aG hb FB.out;obtain⟨x0,x1,_,_⟩:=FK.out.two;generalize k9 A B Q O=JA at*;generalize kA A B Q O=JB at*;clear b8 g6 HX FB FK y6 S x8 M b2 b1 b0 a9 hb
        by_cases R:(JA,JB)∈H
        ·have HN:Hid (mJ L H i (j+1)):=HG.out.same (by rw[<- HJ.out];exact R);have hd:decide ((JA,JB)∈H)=true:=by simp[R]
         clear HJ;go_wp2_with fail;refine (nL _ H JA JB W5 (bW.ts z8.out (by omega))).mono ?_;rw[hd];rintro e w6 ⟨rfl,I⟩;have a2:Hid (bW w6 w.heap.size (.slice (some ⟨g2,0,none⟩) H.length a0) H):=cC z8.out I;have x4:=aG v5 I;clear I v5 x0 x1;go_wp2_with fail;go_roundw
         case rel=>exact⟨j+1,H,by omega,v4,by go_num,a2.out,HN.out,x4⟩
         case measure=>simp[intOf];omega
        ·have HN:Hid (mJ L (H++[(JA,JB)]) i (j+1)):=by
          show mJ _ _ _ _
          rw[HJ.out];exact HG.out.more v4 d8 (by rw[<- HJ.out];exact R)
         have hd:decide ((JA,JB)∈H)=false:=by simp[R]
         clear HJ;go_wp2_with fail;refine (nL _ H JA JB W5 (bW.ts z8.out (by omega))).mono ?_;rw[hd];rintro e w6 ⟨rfl,I⟩;have y0:=cB I x0;have y1:=cB I x1;have OW:=cC z8.out I;have x4:=aG v5 I;have d7:=x4.size;have HB:=kK OW;clear I v5 x0 x1 z8
         go_wp2_with (at_builtin;refine IV _ rfl _ _ rfl w.heap.size _ H rfl (OW.alloc _) _ JA JB rfl (Bk.new _ _ rfl) (by omega) (by simp;omega) ?_;intro g8 e1 w8 z9 x2 b3)
         have w7:pU w.heap.size w w8:=Below.aU (aH x4 _) x2 (by simp;omega) HB;go_roundw
         case rel=>exact⟨j+1,H++[(JA,JB)],by omega,by rw[iM];omega,by go_num,z9,HN.out,w7⟩
         case measure=>simp[intOf];omega
      ·obtain rfl:j=i:=by omega
       have M:Hid (bW wr w.heap.size u5 H):=s;have g0:Hid (mJ L H (j+1) 0):=hG.outer;clear s hG;go_wp2_with fail;go_roundw
       case rel=>exact⟨j+1,H,by omega,by go_num,M.out,g0.out,hb⟩
       case measure=>simp[intOf];omega
    ·obtain rfl:i=T.length:=by omega
     obtain⟨Wc,rfl⟩:∃Wc,wr=Wc:=⟨_,rfl⟩;have g4:Hid (wJ.filter (fun t=>decide (t∈T))=jT L):=HG.out.fin (xU _);have b6:Hid (Ts wr (.slice y4 T.length h9) T):=bW.ts M.out (by omega);have HE:Hid (bW (wr.alloc (.cells #[] 32)) wr.heap.size (.slice (some ⟨wr.heap.size,0,none⟩) 0 0) []):=Bb wr rfl;have b4:pU wr.heap.size wr (wr.alloc (.cells #[] 32)):=aH (AW _ _) _;have w4:=hb.size;clear M HG;go_wp2_with fail;obtain⟨Wd,f2⟩:∃Wd,Wd=wr:=⟨_,rfl⟩;subst f2
     go_loopw [10,11] (fun o b wq=>∃x:Nat,x<=8/\b=.int .i64 x/\bW wq Wd.heap.size o ((iK x).filter fun t=>decide (t∈T))/\pU Wd.heap.size Wd wq) (fun _ b _=>8-(intOf b).toNat)
     case atStart=>exact⟨0,by omega,rfl,HE.out,b4⟩
     case round=>
      clear HE b4;obtain⟨x,hx,rfl,s,Z⟩:=hrel;have M:Hid (bW wr Wd.heap.size u10 ((iK x).filter fun t=>decide (t∈T))):=s;clear s
      by_cases k0:x<8
      ·have gx:(x:Int)<=7:=by omega
       go_wp2_with fail
       go_loopw [10,12] (fun o b wq=>∃y:Nat,y<=8/\b=.int .i64 y/\bW wq Wd.heap.size o ((iK x++fE x y).filter fun t=>decide (t∈T))/\pU Wd.heap.size Wd wq) (fun _ b _=>8-(intOf b).toNat)
       case atStart=>exact⟨0,by omega,rfl,by have:=M.out;simpa[fE]using this,Z⟩
       case round=>
        clear M Z;obtain⟨y,hy,rfl,s,Z⟩:=hrel;have M:Hid (bW wr Wd.heap.size u10 ((iK x++fE x y).filter fun t=>decide (t∈T))):=s;clear s;have i5:=Z.size
        by_cases j5:y<8
        ·have gy:(y:Int)<=7:=by omega
         have HZ:Hid ((iK x++fE x (y+1)).filter (fun t=>decide (t∈T))=(iK x++fE x y).filter (fun t=>decide (t∈T))++[((x:Int),(y:Int))].filter (fun t=>decide (t∈T))):=by
          show _=_;rw[NO,<-List.append_assoc,iP]
         have k1:=RU hx hy (fun t=>decide (t∈T));generalize (iK x++fE x y).filter (fun t=>decide (t∈T))=G at*
         by_cases R:((x:Int),(y:Int))∈T
         ·have hd:decide (((x:Int),(y:Int))∈T)=true:=by simp[R]
          go_wp2_with fail;refine (nL _ T (x:Int) (y:Int) wr (b6.out.keep Z)).mono ?_;rw[hd];rintro e w6 ⟨rfl,I⟩;have OW:=cC M.out I;have x4:=aG Z I;have d7:=x4.size;have HB:=kK OW;clear I M hd
          go_wp2_with (at_builtin;refine IV _ rfl _ _ rfl Wd.heap.size _ G rfl (OW.alloc _) _ (x:Int) (y:Int) rfl (Bk.new _ _ rfl) (by omega) (by simp;omega) ?_;intro g8 e1 w8 z9 x2 b3)
          have w7:pU Wd.heap.size Wd w8:=Below.aU (aH x4 _) x2 (by simp;omega) HB;go_roundw
          case rel=>exact⟨y+1,by omega,by go_num,by rw[HZ.out];simpa[R]using z9,w7⟩
          case measure=>simp[intOf];omega
         ·have hd:decide (((x:Int),(y:Int))∈T)=false:=by simp[R]
          go_wp2_with fail;refine (nL _ T (x:Int) (y:Int) wr (b6.out.keep Z)).mono ?_;rw[hd];rintro e w6 ⟨rfl,I⟩;have a2:Hid (bW w6 Wd.heap.size u10 G):=cC M.out I;have x4:=aG Z I;clear I M hd;go_wp2_with fail;go_roundw
          case rel=>exact⟨y+1,by omega,by go_num,by rw[HZ.out];simpa[R]using a2.out,x4⟩
          case measure=>simp[intOf];omega
        ·obtain rfl:y=8:=by omega
         go_wp2_with fail;go_roundw
         case rel=>exact⟨x+1,by omega,by go_num,by rw[IF];exact M.out,Z⟩
         case measure=>simp[intOf];omega
      ·obtain rfl:x=8:=by omega
       obtain⟨k7,k4,rfl⟩:=sA M.out;go_wp2_with fail;go_ret;refine⟨_,rfl,?_,hb.trans (Z.mono w4)⟩;rw[g1.out,<-g4.out];exact cW M.out w4
end Go.Proofs.YtbdpcngcbnoioaaGreatDoor
