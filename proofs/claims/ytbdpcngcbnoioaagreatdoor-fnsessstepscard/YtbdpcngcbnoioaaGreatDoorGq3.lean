import Derived.Test.YtbdpcngcbnoioaaGreatDoorGq1
import Derived.Sort.QuietIn
set_option maxRecDepth 100000
set_option maxHeartbeats 16000000
namespace Go.Proofs.YtbdpcngcbnoioaaGreatDoor
open Go.RowKit Go.Shelf
open _root_.List renaming length_map->fD,length_take->fH,take_length->fV,mem_append->gY,map_append->gZ,mem_append_left->iC,length_append->jU,filter_append->kR,eq_nil_of_length_eq_zero->kX,getD_eq_getElem?_getD->lI,getElem?_eq_getElem->lY,length_filter_le->mF,take_add_one->mJ,nodup_append->nU,length_range->oJ,length_cons->oO,range_succ->qA
open Go.RowKit renaming Below->rN
open Go renaming World->sE,Value->sG,callsIn_wide->sH,CallsIn->sI,IntKind->wH,Calls->wR,Addr->AT
open _root_.Nat renaming le_refl->B3,le_trans->BK,zero_le->E0
open Go.RowKit.Below renaming refl->EJ
open Go.Proofs.Tryz renaming prog->Ga
open Go.CallsIn renaming mono->Lx
variable {B hb i j k m n:Nat}{J:LI->sE->Prop}{T l:LI}{W w wr:sE}{X Y:Int}{v:sG}
attribute [local go_sem] Oper.semAt_some
theorem Nx {g:Nat}(h:Bk W g #[.int .i64 X,.int .i64 Y] 32):∀j u,[sG.int .i64 X,sG.int .i64 Y][j]?=some u->W.cell? ((⟨g,0,none⟩:AT).add j)=some u:=by
 intro j u a
 match j,a with
 | 0,a=>simp at a;subst a;simpa[AT.add]using h.two.1
 | 1,a=>simp at a;subst a;simpa[AT.add]using h.two.2.1
theorem Dd {a:Nat}(D I:TypeId)(Q:Ga.underlying D=some (.slice 32))(G:aW W a v l)(H:Nat)(X Y:Int)(R:Bk W H #[.int .i64 X,.int .i64 Y] 32)(hl:l.length<=2000000)(F:a<=W.heap.size):
  ∃g A s,(Builtin.append_ #[D,D] I #[v,.slice (some ⟨H,0,none⟩) 1 1]).run Ga W=.ok (.slice (some ⟨g,0,none⟩) (l.length+1) A) s/\aW s a (.slice (some ⟨g,0,none⟩) (l.length+1) A) (l++[(X,Y)]) /\
   W.grownBy s v.ownBlock/\(v.ownBlock=some g\/g=W.heap.size)/\g<s.heap.size:=by
 obtain⟨i0,hi,O,N,M⟩:=info_parts mW;obtain⟨g,A,s,h1,h2,h3,h4,h5⟩:=run_append_lies (P:=Ga) (w:=W) D I a 32 i0 _ 2 16 Q hi O N M rfl (by decide) v l.length (jG l) G ⟨H,0,none⟩ 1 1 [.int .i64 X,.int .i64 Y] rfl (Nx R) (mV _ _) (by omega) (by unfold maxLen;omega) (by omega) F W.heap.size rfl;refine⟨g,A,s,h1,?_,h3,h4,h5⟩
 show s.ownsRow _ _ _ _ _ _
 rw[iM];simpa using h2
theorem Mt (h:Hp w hb l)(g:cJ l l.length 0)(h0:0<l.length)(hl:l.length<=1000000)(hg:gt l 0=(X,Y)):
  wR Ga 263 #[C6 hb] w fun e a=>e=.returned (.iface 32 (tv X Y))/\∃c:LI,Hp a hb c/\c.length+1=l.length/\(∀x,x∈l↔x=(X,Y)\/x∈c)/\cJ c c.length 0/\HF hb w a:=by
 have:=Ko h g h0 hl;rw[hg]at this;exact this
def yV:sG->Nat
 | .slice _ n _=>n
 | _=>0
theorem sK (h:aW w B v l):∃ad a,v=.slice ad l.length a:=by
 rcases kE h with⟨rfl,rfl⟩|⟨g,a,c,rfl,_⟩
 ·exact⟨_,_,rfl⟩
 ·exact⟨_,_,rfl⟩
structure Cb (l:List Rw)(m hb:Nat)(J:LI->sE->Prop)(p:sG)(n:Nat)(next:LI)(wr:sE):Prop where
 own:aW wr hb p ((jT l).take n)
 hp:Hp wr hb next
 low:cJ next next.length 0
 pt:nF l n next
 le:next.length<=400+64*n
 dj:Dj hb m hb p.ownBlock wr
 jj:J ((jT l).take n) wr
theorem uN (a:rN B w W)(F:w.heap.size<=B)(hf:HF hb W wr)(D:w.heap.size<=hb)(ha:cA W hb=none){g:Nat}(s:w.cell? ⟨g,i,none⟩=some v):wr.cell? ⟨g,i,none⟩=some v:=by
 have A:=lC s;rw[sE.cell?_of_block (w:=w) ((hf.keep g (by have:=a.size;omega) (by omega) (by rw[ha];simp)).trans (a.block g (by omega)))];exact s
theorem mQ (h:aW w B v l)(hi:i<l.length):∃g a,v=.slice (some ⟨g,0,none⟩) l.length a/\w.cell? ⟨g,i*2,none⟩=some (.int .i64 (gt l i).1)/\w.cell? ⟨g,i*2+1,none⟩=some (.int .i64 (gt l i).2):=by
 rcases kE h with⟨rfl,rfl⟩|⟨g,a,c,rfl,_,hb,_,_,_,hf⟩
 ·simp at hi
 ·exact⟨g,a,rfl,hb.cell (hf i hi).1,hb.cell (hf i hi).2⟩
theorem Cb.dt {l:List Rw}{p:sG}{next:LI}(h:Cb l m hb J p n next wr):(64-yV p)*64+yV ((wr.cell? ⟨hb,0,none⟩).getD (.int .i64 0))=(64-n)*64+next.length:=by
 obtain⟨ad,H,e⟩:=sK h.own;have D:=h.pt.le;have s:((jT l).take n).length=n:=by rw[fH];omega
 obtain⟨v,g,a,_⟩:=h.hp;obtain⟨G,F,A⟩:=sK a;rw[e,g.cell (i:=0) (v:=v) rfl,A,s];rfl
theorem L0 {l:List Rw}{u:sG}{next c a:LI}{w1:sE}(Z:nF l n next)(F:(X,Y)∈next)(g:∀x∈next,jW (X,Y) x)(hn:n<(jT l).length)(H:gt (jT l) n=(X,Y))(x1:next.length<=400+64*n)(U:c.length+1=next.length/\(∀x,x∈next↔x=(X,Y)\/x∈c))
  (x3:a.length=c.length+n) (G:∀x,x∈a↔x∈c\/∃j,j<n/\x=jF (gt (jT l) j) (X,Y)) (D:cJ a a.length 0) (hp:Hp w hb a) (hD:Dj hb m hb v.ownBlock w)
  (hJ:∀s A I,J s A->sZ hb m A I->J s I) (S:J ((jT l).take (n+1)) w) (hg:w.grownBy w1 v.ownBlock) (R:u.ownBlock=v.ownBlock\/(u.ownBlock=some w.heap.size/\w.heap.size<w1.heap.size)) (ho:aW w1 hb u ((jT l).take n++[(X,Y)])):Cb l m hb J u (n+1) a w1:=by
 obtain⟨Q,O,N,M⟩:=hD.app hg R;have V:(jT l).take (n+1)=(jT l).take n++[(X,Y)]:=by
  rw[mJ]
  congr 1
  rw[<- H];unfold gt;simp[lI,lY hn]
 have x2:=mG l;exact⟨by rw[V];exact ho,hp.app N M,D,Z.told F g hn H U.2 G,by omega,O,hJ _ _ _ S Q⟩
structure Ca (l:List Rw)(m hb bt:Nat)(J:LI->sE->Prop)(pv:sG)(n:Nat)(c:LI)(X Y:Int)(k:Nat)(c':LI)(wr:sE):Prop where
 own:aW wr hb pv ((jT l).take n)
 hp:Hp wr hb c'
 low:cJ c' c'.length 0
 len:c'.length=c.length+k
 mem:∀x,x∈c'↔x∈c\/∃j,j<k/\x=jF (gt (jT l) j) (X,Y)
 dj:Dj hb m hb pv.ownBlock wr
 jj:J ((jT l).take (n+1)) wr
 bx:Bk wr bt #[.int .i64 X,.int .i64 Y] 32
 ba:cA wr hb≠some bt
 bh:bt≠hb
theorem Ca.step {l:List Rw}{H:Nat}{pv:sG}{c:LI}{G g:LI}{w1 D:sE}(h:Ca l m hb H J pv n c X Y k G wr)(N:∀s A O,J s A->sZ hb m A O->J s O)
  (a:rN wr.heap.size wr w1) (hF:HF hb w1 D) (M:Hp D hb g) (hl:g.length=G.length+1) (hm:∀x,x∈g↔x∈G\/x=jF (gt (jT l) k) (X,Y)) (F:cJ g g.length 0):Ca l m hb H J pv n c X Y (k+1) g D:=by
 have I:=h.dj.below a;have ha:cA w1 hb≠some H:=by rw[aB (a.block hb h.dj.hw)];exact h.ba
 have S:=(h.bx.keep a).lt;refine⟨I.dD hF (bJ h.own a),M,F,by rw[hl,h.len];omega,fun x=>?_,I.hf hF,N _ _ _ (N _ _ _ h.jj (h.dj.bw a)) (I.cr hF),hF.bk (h.bx.keep a) h.bh ha,?_,h.bh⟩
 ·rw[hm,h.mem];constructor
  ·rintro ((e|⟨j,Q,e⟩)|e)
   ·exact .inl e
   ·exact .inr ⟨j,by omega,e⟩
   ·exact .inr ⟨k,by omega,e⟩
  ·rintro (e|⟨j,Q,e⟩)
   ·exact .inl (.inl e)
   ·by_cases hq:j=k
    ·subst hq;exact .inr e
    ·exact .inl (.inr ⟨j,by omega,e⟩)
 ·rcases hF.arr with e|⟨q,e,h1,h2⟩
  ·rw[e];exact ha
  ·rw[e];intro R;cases R;omega
theorem LA (h:aW w B v l)(a:Dj hb m hb v.ownBlock w):∃pv,v=pv/\aW w B pv l/\Dj hb m hb pv.ownBlock w:=⟨v,rfl,h,a⟩
theorem MK {P:Int×Int}(h:P≠(X,Y)):(P.1==X)=false\/(P.1=X/\(P.2==Y)=false):=by
 by_cases h1:P.1=X
 ·refine .inr ⟨h1,beq_eq_false_iff_ne.2 fun e=>h (Prod.ext h1 e)⟩
 ·exact .inl (beq_eq_false_iff_ne.2 h1)
def OO (l:List Rw)(pre:LI)(t:Int×Int):Prop:=∃n,n<(jT l).length/\pre=(jT l).take n/\gt (jT l) n=t
theorem Gp (lp b1 m:Nat)(a:Option AT)(w6:Nat)(l:List Rw)(J:LI->sE->Prop)(W:sE)
  (hJ:∀s A A',J s A->sZ W.heap.size m A A'->J s A')
  (hY:∀pre t W1,J pre W1->pre.length<64->OO l pre t->YieldAt Fence.wide (3-1) Ga lp #[tv t.1 t.2] W1 fun e W'=>e=.returned (.bool true)/\J (pre++[t]) W'/\iK m W1 W')
  (hk:aR l=true) (e7:Rs W (.slice a l.length w6) l) (d5:Bk W b1 #[.slice a l.length w6] 28) (hm:m<W.heap.size) (ha:∀q,cA W m=some q->q<W.heap.size) (h0:J [] W):
  sI Fence.wide 3 Ga 261 #[.func (.yield lp) #[] #[],.pointer (some ⟨b1,0,none⟩)] W fun e W'=>(∃v,e=.returned v)/\∃xs,xs=jT l/\J xs W':=by
 have hV:=fP hk;have HK:=(show Hid (aR l=true) from hk);obtain⟨a',c',e,hc,n3,hn,y7⟩:=Rs.open e7;cases e;unfold maxLen at n3;have N:=(show Hid _ from y7);have M:rN W.heap.size W (W.alloc (.cells #[.slice none 0 0] 303)):=aG (EJ _ _) _;have w8:Bk (W.alloc (.cells #[.slice none 0 0] 303)) W.heap.size #[.slice none 0 0] 303:=Bk.new _ _ rfl;have d0:=(d5.keep M).cell (i:=0) (v:= .slice a l.length w6) rfl;have f7:Hid (Hp (W.alloc (.cells #[.slice none 0 0] 303)) W.heap.size ((l.take 0).map fun r=>r.1.2)):=⟨_,w8,⟨rfl,.inl ⟨rfl,rfl⟩⟩,by simp[sG.ownBlock]⟩;have Z:cA (W.alloc (.cells #[.slice none 0 0] 303)) W.heap.size=none:=by rw[hZ w8];rfl
 have v0:(W.alloc (.cells #[.slice none 0 0] 303)).heap.size=W.heap.size+1:=by simp
 have a5:Hid (Dj W.heap.size m W.heap.size none (W.alloc (.cells #[.slice none 0 0] 303))):=by
  have e:cA (W.alloc (.cells #[.slice none 0 0] 303)) m=cA W m:=aB (M.block m hm);refine⟨hm,B3 _,by omega,by omega,(fun q e=>by rw[Z]at e;cases e),(fun q e=>by cases e),fun q e'=>?_⟩;rw[e]at e';have:=ha q e';exact⟨by omega,by omega⟩
 have g5:Hid (J [] (W.alloc (.cells #[.slice none 0 0] 303))):=hJ _ _ _ h0 (sZ.below M (B3 _) ha);have q5:=(show Hid _ from v0);clear y7 e7 hk h0 w8 d5 ha v0;refine callsIn_of_wp Tryz.func261 rfl trivial ?_ rfl;simp only[Tryz.ntmps261,List.size_toArray,oO,List.length_nil,Nat.reduceAdd,Nat.reduceSub,Array.replicate_succ,Array.replicate_zero,List.push_toArray,List.append_toArray,List.nil_append,List.cons_append]
 gi_wp2
 generalize zE:sE.alloc W _=W1 at*;generalize zF:W.heap.size=hb at*
 gi_loopw [12] (fun i wr=>∃k:Nat,k<=l.length/\i=.int .i64 k/\Hp wr hb ((l.take k).map fun r=>r.1.2)/\HF hb W1 wr) (fun i _=>l.length-(intOf i).toNat)
 case atStart=>exact⟨0,by omega,rfl,f7.out,HF.refl _ _⟩
 case round=>
  obtain⟨k,zB,rfl,hH,hF⟩:=hrel
  by_cases v4:k<l.length
  ·obtain⟨g,off,K,V,A,B,D,rfl,hg,hr,c0,c1,c2,c3,c4⟩:=N.out k v4;have q0:=uN M (by omega) hF (by omega) Z c0;have q1:=uN M (by omega) hF (by omega) Z c1;have q2:=uN M (by omega) hF (by omega) Z c2;have q3:=uN M (by omega) hF (by omega) Z c3;have q4:=uN M (by omega) hF (by omega) Z c4;have ii:((k:Int)<(l.length:Int)):=by omega
   have HR:=(show Hid _ from hr);obtain⟨v,O,x4,y2⟩:=hH;have s0:=O.cell (i:=0) (v:=v) rfl;have hX:=O.lt;have HV:=(show Hid (Bk wr hb #[v] 303/\aW wr 0 v ((l.take k).map fun r=>r.1.2)/\v.ownBlock≠some hb) from⟨O,x4,y2⟩);have b8:((l.take k).map fun r=>r.1.2).length=k:=by rw[fD,fH];omega
   have HZ:Hid ((l.take (k+1)).map (fun r=>r.1.2)=((l.take k).map fun r=>r.1.2)++[(A,B)]):=by
    show _=_;rw[gL HR.out,gZ];rfl
   have v6:rN wr.heap.size wr ((wr.alloc (.cells #[.int .i64 K,.int .i64 V,.int .i64 A,.int .i64 B,.int .i64 D] 55)).alloc (.cells #[.int .i64 A,.int .i64 B] 32)):=aG (aG (EJ _ _) _) _;have bt:Bk ((wr.alloc (.cells #[.int .i64 K,.int .i64 V,.int .i64 A,.int .i64 B,.int .i64 D] 55)).alloc (.cells #[.int .i64 A,.int .i64 B] 32)) (wr.heap.size+1) #[.int .i64 A,.int .i64 B] 32:=Bk.new _ _ (by simp);obtain⟨g4,w3,w4,U,o1,o2,o3,o4⟩:=Dd 303 303 Tryz.underlying303 (bJ x4 v6) (wr.heap.size+1) A B bt (by omega) (E0 _);obtain⟨fz,cz,z7⟩:=De O y2 v6 o1 o2 o3 o4;rw[<- HZ.out]at z7;clear c0 c1 c2 c3 c4 hr O x4 y2 o1 o2 o3 o4 v6 bt;rw[b8]at U z7;clear b8
   gi_wp2_with (gi_at_builtin;refine qB rfl _ _ _ rfl rfl rfl U ?_)
   go_roundw
   case rel=>exact⟨k+1,by omega,by go_num,z7.out.1,hF.trans z7.out.2⟩
   case measure=>simp[intOf];omega
  ·obtain rfl:k=l.length:=by omega
   rw[fV]at hH;have a4:Hid (Dj hb m hb none wr):=a5.out.hf hF;have g3:Hid (J [] wr):=hJ _ _ _ g5.out (a5.out.cr hF);clear d0
   gi_wp2
   refine⟨trivial,?_⟩;refine Lx (sH.2 (IR hH (by rw[fD];omega))) ?_;rintro e w2 ⟨rfl,c,y8,y6,y5,I,v8⟩;have ST:Hid (Cb l m hb J (.slice none 0 0) 0 c w2):=⟨⟨rfl,.inl ⟨rfl,rfl⟩⟩,y8,I,nF.start HK.out y5,by rw[y6,fD];omega,a4.out.hf v8,hJ _ _ _ g3.out (a4.out.cr v8)⟩;clear y8 y6 y5 I v8 hH hF a4 g3 f7 a5 g5 q5 M Z N
   gi_wp2
   gi_loopw [6] (fun p wr=>∃n next,Cb l m hb J p n next wr) (fun p wr=>(64-yV p)*64+yV ((wr.cell? ⟨hb,0,none⟩).getD (.int .i64 0)))
   case atStart=>exact⟨0,c,ST.out⟩
   case round=>
    clear ST;obtain⟨n,next,hS⟩:=hrel;have HS:=(show Hid (Cb l m hb J u6 n next wr) from hS);obtain⟨v2,hH,i3,hP,hW,hD,n6⟩:=hS;have m9:=hP.le;have zD:=mG l;have x5:((jT l).take n).length=n:=by rw[fH];omega
    obtain⟨vI,j4,v1⟩:=sK v2;rw[x5]at v1;obtain⟨v,O,x4,y2⟩:=hH;obtain⟨p0,j5,b5⟩:=sK x4;have s0:wr.cell? ⟨hb,0,none⟩=some (.slice p0 next.length j5):=by rw[<- b5];exact O.cell (i:=0) (v:=v) rfl
    have HM:Hid ((64-yV u6)*64+yV ((wr.cell? ⟨hb,0,none⟩).getD (.int .i64 0))=(64-n)*64+next.length):=by
     show _=_;rw[s0,v1];rfl
    clear O x4 y2 b5 v2 i3 hD n6
    by_cases hz:next.length=0
    ·have i2:next=[]:=kX hz;have HE:Hid (n=(jT l).length):=by
      have:=HS.out.pt;rw[i2]at this;exact this.stop
     rw[hz]at s0;clear hP
     gi_wp2
     go_end0
     refine⟨⟨_,rfl⟩,_,rfl,?_⟩;have:=HS.out.jj;rw[HE.out,fV]at this;exact this
    ·have hE:(0:Int)<(next.length:Int):=by omega
     have i0:0<next.length:=by omega
     obtain⟨X,Y,e5⟩:∃X Y,gt next 0=(X,Y):=⟨_,_,rfl⟩;have HG:=(show Hid (gt next 0=(X,Y)) from e5);have HP:=(show Hid (nF l n next) from hP);clear hP e5
     gi_wp2
     refine⟨trivial,?_⟩;refine Lx (sH.2 (Mt HS.out.hp HS.out.low i0 (by omega) HG.out)) ?_;rintro e w1 ⟨rfl,c,y8,y6,y5,I,z5⟩;have ta:=Fh X Y w1;have F:rN w1.heap.size w1 (w1.alloc (.cells #[.int .i64 X,.int .i64 Y] 32)):=aG (EJ _ _) _;have bx:Bk (w1.alloc (.cells #[.int .i64 X,.int .i64 Y] 32)) w1.heap.size #[.int .i64 X,.int .i64 Y] 32:=Bk.new _ _ rfl;have D1:=HS.out.dj.hf z5;have HD:Hid (Dj hb m hb u6.ownBlock (w1.alloc (.cells #[.int .i64 X,.int .i64 Y] 32))):=D1.below F;have HO:Hid (aW (w1.alloc (.cells #[.int .i64 X,.int .i64 Y] 32)) hb u6 ((jT l).take n)):=bJ (HS.out.dj.dD z5 HS.out.own) F;have a2:Hid (J ((jT l).take n) (w1.alloc (.cells #[.int .i64 X,.int .i64 Y] 32))):=hJ _ _ _ (hJ _ _ _ HS.out.jj (HS.out.dj.cr z5)) (D1.bw F);have HH:Hid (Hp (w1.alloc (.cells #[.int .i64 X,.int .i64 Y] 32)) hb c):=y8.keep F;have N:Hid (c.length+1=next.length/\(∀x,x∈next↔x=(X,Y)\/x∈c)/\cJ c c.length 0):=⟨y6,y5,I⟩;have HX:Hid (w1.heap.size<(w1.alloc (.cells #[.int .i64 X,.int .i64 Y] 32)).heap.size/\u6.ownBlock≠some w1.heap.size/\cA (w1.alloc (.cells #[.int .i64 X,.int .i64 Y] 32)) m≠some w1.heap.size/\cA (w1.alloc (.cells #[.int .i64 X,.int .i64 Y] 32)) hb≠some w1.heap.size/\w1.heap.size≠hb):=by
      have k1:=D1.mB;have k2:=D1.wB;have k3:=D1.hw;refine⟨by simp,fun e=>?_,fun e=>?_,fun e=>?_,by omega⟩
      ·have:=(D1.pp _ e).2.1;omega
      ·rw[aB (F.block m (by omega))]at e;have:=(D1.am _ e).1;omega
      ·rw[aB (F.block hb (by omega))]at e;have:=(D1.ah _ e).2.1;omega
     clear y8 y6 y5 I z5 D1 F s0;subst v1;obtain⟨x0,x1,_,_⟩:=bx.two;have HN:Hid ((n=0/\(X,Y) ∉ (jT l).take n)\/0<n/\((gt (jT l) (n-1)=(X,Y)/\(X,Y)∈(jT l).take n)\/(gt (jT l) (n-1)≠(X,Y)/\(X,Y) ∉ (jT l).take n))):=by
      have y4:(X,Y)∈next:=(N.out.2.1 _).2 (.inl rfl)
      by_cases y3:n=0
      ·exact .inl ⟨y3,by rw[y3];simp⟩
      ·refine .inr ⟨by omega,?_⟩
       by_cases ht:(X,Y)∈(jT l).take n
       ·exact .inl ⟨(HP.out.last y4 ht).2,ht⟩
       ·exact .inr ⟨fun e=>ht ((iL m9).2 ⟨n-1,by omega,e⟩),ht⟩
     have g7:Hid (Bk (w1.alloc (.cells #[.int .i64 X,.int .i64 Y] 32)) w1.heap.size #[.int .i64 X,.int .i64 Y] 32):=bx;clear bx
     rcases HN.out with⟨y3,z2⟩|⟨y3,⟨R,v3⟩|⟨R,z2⟩⟩
     case' inr.inr=>
      obtain⟨gp,cp,ep,S,x3⟩:=mQ HO.out (i:=n-1) (by omega);rw[x5]at ep;cases ep;rw[lE (by omega)]at S x3;have hne:=MK R;generalize (gt (jT l) (n-1)).1=PA at*;generalize (gt (jT l) (n-1)).2=PB at*;have i1:wH.i64.wrap ((n:Int)-1)=((n-1:Nat):Int):=by rw[wH.wrap_i64];omega
      have g0:decide ((0:Int)<(n:Int))=true:=by simp;omega
      have g1:((n-1:Nat):Int)<(n:Int):=by omega
      rcases hne with hne|⟨b4,hne⟩
      case' inr=>rw[b4]at S;clear b4
     case' inl=>
      have g0:decide ((0:Int)<(n:Int))=false:=by simp;omega
      have o6:decide (0<n)=false:=by simp;omega
      clear y3
     case inr.inl=>
      obtain⟨gp,cp,ep,S,x3⟩:=mQ HO.out (i:=n-1) (by omega);rw[x5]at ep;cases ep;rw[lE (by omega),R]at S x3;have i1:wH.i64.wrap ((n:Int)-1)=((n-1:Nat):Int):=by rw[wH.wrap_i64];omega
      have g0:decide ((0:Int)<(n:Int))=true:=by simp;omega
      have g1:((n-1:Nat):Int)<(n:Int):=by omega
      have l0:=(show Hid ((X,Y)∈(jT l).take n) from v3);clear v3 R
      gi_wp2
      gi_quiet (fail)
      have G:rN (w1.alloc (.cells #[.int .i64 X,.int .i64 Y] 32)).heap.size (w1.alloc (.cells #[.int .i64 X,.int .i64 Y] 32)) ((w1.alloc (.cells #[.int .i64 X,.int .i64 Y] 32)).drewN nq):=⟨rfl,rfl,rfl,B3 _,fun _ _=>rfl⟩;have ST:Hid (Cb l m hb J (.slice (some ⟨gp,0,none⟩) n j4) n c ((w1.alloc (.cells #[.int .i64 X,.int .i64 Y] 32)).drewN nq)):=⟨bJ HO.out G,HH.out.keep G,N.out.2.2,HP.out.skip l0.out N.out.2.1,by have:=N.out.1;omega,HD.out.below G,hJ _ _ _ a2.out (HD.out.bw G)⟩;have a1:Hid ((64-n)*64+c.length<(64-n)*64+next.length):=by show _<_;have:=N.out.1;omega
      clear G
      gi_wp2
      go_roundw
      case rel=>exact⟨n,c,ST.out⟩
      case measure=>rw[ST.out.dt,HM.out];exact a1.out
     all_goals
      have y4:(X,Y)∈next:=(N.out.2.1 _).2 (.inl rfl);have z3:∀x∈next,jW (X,Y) x:=fun x hx=>by rw[<- HG.out];exact Jz HS.out.low hx
      obtain⟨b7,v5⟩:=HP.out.next y4 z3 z2;have Q:=(show Hid (((X,Y)∈next/\∀x∈next,jW (X,Y) x)/\n<(jT l).length/\gt (jT l) n=(X,Y)) from⟨⟨y4,z3⟩,b7,v5⟩);have HT:Hid ((jT l).take (n+1)=(jT l).take n++[(X,Y)]):=by
       show _=_
       rw[mJ,<-v5];unfold gt;simp[lI,lY b7]
      clear y4 z3 v5 z2
      gi_wp2
      gi_quiet (fail)
      have G:rN (w1.alloc (.cells #[.int .i64 X,.int .i64 Y] 32)).heap.size (w1.alloc (.cells #[.int .i64 X,.int .i64 Y] 32)) ((w1.alloc (.cells #[.int .i64 X,.int .i64 Y] 32)).drewN nq):=⟨rfl,rfl,rfl,B3 _,fun _ _=>rfl⟩;have z6:Hid (Dj _ _ _ _ _):=HD.out.below G;have f8:Hid (aW _ _ _ _):=bJ HO.out G;have a3:Hid (Hp _ _ _):=HH.out.keep G;have f0:=hJ _ _ _ a2.out (HD.out.bw G);have x8:Hid (Bk ((w1.alloc (.cells #[.int .i64 X,.int .i64 Y] 32)).drewN nq) w1.heap.size #[.int .i64 X,.int .i64 Y] 32):=g7.out.keep G;have l6:=x8.out.two.1;have l5:=x8.out.two.2.1;have z0:Hid (cA ((w1.alloc (.cells #[.int .i64 X,.int .i64 Y] 32)).drewN nq) m≠some w1.heap.size/\cA ((w1.alloc (.cells #[.int .i64 X,.int .i64 Y] 32)).drewN nq) hb≠some w1.heap.size/\w1.heap.size≠hb/\w1.heap.size≠m/\w1.heap.size<((w1.alloc (.cells #[.int .i64 X,.int .i64 Y] 32)).drewN nq).heap.size):=by
       have k1:=HD.out.mB;have k2:=HD.out.wB;have k3:=HD.out.hw;have k4:=HX.out;refine⟨?_,?_,k4.2.2.2.2,?_,Nat.lt_of_lt_of_le k4.1 G.size⟩
       ·rw[aB (G.block m (by omega))];exact k4.2.2.1
       ·rw[aB (G.block hb (by omega))];exact k4.2.2.2.1
       ·have k5:(w1.alloc (.cells #[.int .i64 X,.int .i64 Y] 32)).heap.size=w1.heap.size+1:=by simp
        have:=k4.2.2.2.2;omega
      obtain⟨fn,tmps,assign,body,hy,hR⟩:=hY ((jT l).take n) (X,Y) _ f0 (by rw[x5];omega) ⟨n,Q.out.2.1,rfl,Q.out.2.2⟩;clear G f0 HX g7 HH HO HD a2 x0 x1 g0
      try clear o6
      gi_wp2
      refine hR.mono ?_;rintro e W3 ⟨rfl,v7,x6⟩;obtain⟨f1,f3⟩:=z6.out.du x6 a3.out;have e9:aW W3 hb _ _:=z6.out.dg x6 f8.out;have d4:=x6.bk x8.out z0.out.2.2.2.1 z0.out.1;have e4:cA W3 hb≠some w1.heap.size:=by
       have e1:=x6;obtain⟨v,q1,q2,q3⟩:=a3.out;have q4:=(z6.out.dy x6 q1).1;rw[hZ q4,<-hZ q1];exact z0.out.2.1
      have b9:w1.heap.size≠hb:=z0.out.2.2.1;rw[<- HT.out]at v7;clear hR hy l6 l5 z6 f8 a3 x8 z0 x6;obtain⟨pv,b6,e8,f2⟩:=LA e9 f3;have f6:=(show Hid (_=pv) from b6);have e6:Ca l m hb w1.heap.size J pv n c X Y 0 c W3:=⟨e8,f1,N.out.2.2,rfl,fun x=>by simp,f2,v7,d4,e4,b9⟩;have f5:=(show Hid (Ca l m hb w1.heap.size J pv n c X Y 0 c W3) from e6);clear b6 e9 f3 e8 f2 f1 v7 d4 e4 b9 e6;generalize w1.heap.size=bt at*
      gi_wp2
      gi_loopw [49] (fun i wr=>∃(k:Nat)(c':LI),k<=n/\i=.int .i64 k/\Ca l m hb bt J pv n c X Y k c' wr) (fun i _=>n-(intOf i).toNat)
      case atStart=>exact⟨0,c,by omega,rfl,f5.out⟩
      case round=>
       clear f5;obtain⟨k,c',xE,rfl,H⟩:=hrel;have HI:=(show Hid (Ca l m hb bt J pv n c X Y k c' wr) from H)
       by_cases v4:k<n
       ·obtain⟨g2,zW,e2,S,x3⟩:=mQ H.own (i:=k) (by omega);rw[x5]at e2;rw[lE v4]at S x3;have e3:=f6.out.trans e2;cases e3;have r0:Hid ((iE (gt (jT l) k).1 (gt (jT l) k).2 X Y,iF (gt (jT l) k).1 (gt (jT l) k).2 X Y)=jF (gt (jT l) k) (X,Y)):=by
         have h1:=Q.out.2;exact ER (iH (by omega)) (show (X,Y)∈jT l by rw[<- h1.2];exact iH h1.1)
        have ik:(k:Int)<(n:Int):=by omega
        generalize hA:(gt (jT l) k).1=A at*;generalize hB:(gt (jT l) k).2=B at*;have F:rN wr.heap.size wr (wr.alloc (.cells #[.int .i64 A,.int .i64 B] 32)):=aG (EJ _ _) _;obtain⟨y0,y1,_,_⟩:=(H.bx.keep F).two;have i4:=H.len;have q9:Hid (c'.length+1<=1000000):=by show _<=_;have:=N.out.1;omega
        clear H hA hB i4 e2
        gi_wp2
        refine⟨trivial,?_⟩;refine Lx (sH.2 (rP A B X Y _)) ?_;rintro e w5 ⟨rfl,d3⟩;have c9:=aH F d3;have g8:=(show Hid (rN wr.heap.size wr w5) from c9);clear F d3 c9 y0 y1 S x3
        gi_wp2
        refine⟨trivial,?_⟩;refine Lx (sH.2 (IZ (X:=iE A B X Y) (Y:=iF A B X Y) (HI.out.hp.keep g8.out) HI.out.low q9.out)) ?_;rintro e w7 ⟨rfl,c7,p1,p2,p3,p4,p5⟩;have k0:Hid (Ca l m hb bt J _ n c X Y (k+1) c7 w7):=HI.out.step hJ g8.out p5 p1 p2 (fun x=>by rw[p3,r0.out]) p4;clear p1 p2 p3 p4 p5
        gi_wp2
        go_roundw
        case rel=>exact⟨k+1,c7,by omega,by go_num,k0.out⟩
        case measure=>simp[intOf];omega
       ·obtain rfl:k=n:=by omega
        have F:rN wr.heap.size wr (wr.alloc (.cells #[.int .i64 X,.int .i64 Y] 32)):=aG (EJ _ _) _;have f4:Bk (wr.alloc (.cells #[.int .i64 X,.int .i64 Y] 32)) wr.heap.size #[.int .i64 X,.int .i64 Y] 32:=Bk.new _ _ rfl;obtain⟨y0,y1,_,_⟩:=H.bx.two;obtain⟨g4,w3,w4,U,o1,o2,o3,o4⟩:=Dd 27 27 Tryz.underlying27 (bJ H.own F) wr.heap.size X Y f4 (by omega) (by have:=H.dj.wB;have:=F.size;omega);have z4:Hid (Cb l m hb J (.slice (some ⟨g4,0,none⟩) (((jT l).take k).length+1) w3) (k+1) c' w4):=
         L0 HP.out Q.out.1.1 Q.out.1.2 Q.out.2.1 Q.out.2.2 HS.out.le ⟨N.out.1,N.out.2.1⟩ H.len H.mem H.low (H.hp.keep F) (H.dj.below F) hJ (hJ _ _ _ H.jj (H.dj.bw F)) o2 (by
          rcases o3 with o3|o3
          ·exact .inl (by rw[o3];rfl)
          ·exact .inr ⟨by rw[<- o3];rfl,by omega⟩) o1
        have a1:Hid ((64-(k+1))*64+c'.length<(64-k)*64+next.length):=by show _<_;have:=N.out.1;have:=H.len;have:=Q.out.2.1;omega
        have e3:=f6.out;subst e3;clear o1 o2 o3 o4 F f4 H;rw[x5]at U z4
        gi_wp2_with (gi_at_builtin;refine qB rfl _ _ _ rfl rfl rfl U ?_)
        go_roundw
        case rel=>exact⟨k+1,c',z4.out⟩
        case measure=>rw[z4.out.dt,HM.out];exact a1.out
attribute [local go_sem] Oper.semAt_some
theorem As (a:Option AT)(n g:Nat)(w:sE):
  wR Ga 245 #[.slice a n g] w fun e s=>e=.returned (.func (.func 261) #[] #[.pointer (some ⟨w.heap.size,0,none⟩)])/\s=w.alloc (.cells #[.slice a n g] 28):=by
 go_enter Tryz.func245,Tryz.ntmps245;go_wp2_with fail;go_ret;exact⟨rfl,rfl⟩
theorem xG {l:List Rw}{r:Rw}{key:Int}(h:l[k]?=some r)(e:r.1.1.1=key):aV (l.take (k+1)) key=aV (l.take k) key++[r]:=by
 unfold aV;rw[gL h,kR];simp[e]
theorem AL {l:List Rw}{r:Rw}{key:Int}(h:l[k]?=some r)(e:r.1.1.1≠key):aV (l.take (k+1)) key=aV (l.take k) key:=by
 unfold aV;rw[gL h,kR];simp[e]
theorem pW (l:List Rw)(key:Int):(aV l key).length<=l.length:=mF _ _
theorem vA {l:List Rw}(h:aR l=true)(key:Int):aR (aV l key)=true:=
 xY (BK (pW l key) (fP h)) fun _ hr=>eY h (List.mem_filter.1 hr).1
theorem Gy (v:sG)(l:List Rw)(key:Int)(w:sE)(h:Rs w v l)(hl:l.length<=400):
  wR Ga 225 #[v,.int .i64 key] w fun e Q=>∃o:sG,e=.returned o/\aD Q w.heap.size o (aV l key)/\rN w.heap.size w Q:=by
 obtain⟨a,x7,rfl,hc,hm,hn,s⟩:=Rs.open h;unfold maxLen at hm;have HC:=(show Hid _ from s);clear s h;go_enter Tryz.func225,Tryz.ntmps225;go_wp2_with fail
 go_loopw [5,10] (fun o b wr=>∃k:Nat,k<=l.length/\b=.int .i64 k/\aD wr w.heap.size o (aV (l.take k) key)/\rN w.heap.size w wr) (fun _ b _=>l.length-(intOf b).toNat)
 case atStart=>exact⟨0,by omega,rfl,by simpa[aV]using oN _ _ _ _ _,EJ _ _⟩
 case round=>
  obtain⟨k,hk,rfl,F,hb⟩:=hrel;have H:Hid (aD wr w.heap.size u5 (aV (l.take k) key)):=F;have x2:(aV (l.take k) key).length<=400:=BK (pW _ _) (by rw[fH];omega);have x1:=hb.size
  by_cases R:k<l.length
  ·obtain⟨g,off,K,V,A,B,D,rfl,hg,hr,Z,c1,c2,c3,c4⟩:=HC.out k R;have HR:=(show Hid _ from hr);have q0:=cB hb Z;have q1:=cB hb c1;have q2:=cB hb c2;have q3:=cB hb c3;have q4:=cB hb c4;have ii:((k:Int)<(l.length:Int)):=by omega
   have G:rN wr.heap.size wr (wr.alloc (.cells #[.int .i64 K,.int .i64 V,.int .i64 A,.int .i64 B,.int .i64 D] 55)):=aG (EJ _ _) _;clear Z c1 c2 c3 c4 hr F
   by_cases M:K=key
   ·have O:Hid (aV (l.take (k+1)) key=aV (l.take k) key++[(((K,V),(A,B)),D)]):=xG HR.out M;subst M;have O2:aD (wr.alloc (.cells #[.int .i64 K,.int .i64 V,.int .i64 A,.int .i64 B,.int .i64 D] 55)) w.heap.size u5 (aV (l.take k) K):=bJ H.out G;have U:=aH hb G;generalize aV (l.take k) K=l1 at*
    go_wp2_with (at_builtin;refine jZ _ rfl _ _ rfl w.heap.size _ _ rfl (O2.alloc _) _ _ _ _ _ _ rfl (Bk.new _ _ (by simp)) (by omega) (by simp;omega) ?_;intro g3 x3 w3 N I x6)
    have S:rN w.heap.size w w3:=Below.aO (aG U _) I (by simp;omega) (i7 H.out);go_roundw
    case rel=>exact⟨k+1,by omega,by go_num,by rw[O.out];exact N,S⟩
    case measure=>simp[intOf];omega
   ·have O:Hid (aV (l.take (k+1)) key=aV (l.take k) key):=AL HR.out M;have nx:(K==key)=false:=beq_eq_false_iff_ne.2 M;go_wp2_with fail;go_roundw
    case rel=>exact⟨k+1,by omega,by go_num,by rw[O.out];exact bJ H.out G,aH hb G⟩
    case measure=>simp[intOf];omega
  ·obtain rfl:k=l.length:=by omega
   rw[fV]at H;clear F;go_wp2_with fail;go_ret;exact⟨_,rfl,H.out,hb⟩
theorem GJ (A m:Nat)(a:Option AT)(s:Nat)(l:List Rw)(w0:sE)(H:aR l=true)(F:Rs w0 (.slice a l.length s) l)(D:Bk w0 A #[.slice a l.length s] 28)(hm:m<w0.heap.size)(ha:∀q,cA w0 m=some q->q<w0.heap.size):
  D5 m Fence.wide 3 Ga 261 #[.pointer (some ⟨A,0,none⟩)] (fun t:Int×Int=>#[tv t.1 t.2]) (fun xs=>xs=jT l) (OO l) 64 w0:=
 fun G J W g M I h0=>Gp G A m a s l J W M I H (F.keep g) (D.keep g) (by have:=g.size;omega)
  (fun q e=>by rw[aB (g.block m hm)]at e;have:=ha q e;have:=g.size;omega) h0
attribute [local go_sem] Oper.semAt_some
theorem m8 (v:sG)(T:LI)(X Y:Int)(w:sE)(h:Ts w v T):
  wR Ga 268 #[v,tv X Y] w fun e V=>e=.returned (.bool (decide ((X,Y)∈T)))/\rN w.heap.size w V:=by
 obtain⟨a,x3,rfl,hc,hm,hn,s⟩:=h;unfold maxLen at hm;have HC:=(show Hid _ from s);have R:rN w.heap.size w (w.alloc (.cells #[.int .i64 X,.int .i64 Y] 32)):=aG (EJ _ _) _;have Z:Bk (w.alloc (.cells #[.int .i64 X,.int .i64 Y] 32)) w.heap.size #[.int .i64 X,.int .i64 Y] 32:=Bk.new _ _ rfl;clear s;go_enter Tryz.func268,Tryz.ntmps268;go_wp2_with fail;generalize w.alloc (.cells #[.int .i64 X,.int .i64 Y] 32)=w1 at*
 go_loopw [5] (fun i wr=>∃k:Nat,k<=T.length/\i=.int .i64 k/\(∀j,j<k->gt T j≠(X,Y))/\rN w1.heap.size w1 wr) (fun i _=>T.length-(intOf i).toNat)
 case atStart=>exact⟨0,by omega,rfl,fun j G=>by omega,EJ _ _⟩
 case round=>
  obtain⟨k,hk,rfl,I,hb⟩:=hrel;have F:=(show Hid (∀j,j<k->gt T j≠(X,Y)) from I);have A:=aH R hb;clear I
  by_cases M:k<T.length
  ·obtain⟨g,off,rfl,hg,U,c1⟩:=HC.out k M;have S:=cB A U;have d1:=cB A c1;obtain⟨x0,x1,_,_⟩:=(Z.keep hb).two;have ik:(k:Int)<(T.length:Int):=by omega
   have O:Hid (gt T k=(tA T k,tB T k)):=LW T k;clear U c1
   by_cases D:tA T k=X
   ·by_cases H:tB T k=Y
    ·have N:Hid (decide ((X,Y)∈T)=true):=by show _=_;rw[decide_eq_true_eq,<-D,<-H,<-O.out];exact iH M
     rw[D]at S;rw[H]at d1;go_wp2_with fail
     go_quiet (fail)
     go_wp2_with fail;go_ret;exact⟨by rw[N.out];rfl,aH A ⟨rfl,rfl,rfl,B3 _,fun _ _=>rfl⟩⟩
    ·have Q:Hid (gt T k≠(X,Y)):=fun e=>H (by rw[O.out]at e;exact (Prod.mk.inj e).2);have ny:(tB T k==Y)=false:=beq_eq_false_iff_ne.2 H;rw[D]at S;generalize tB T k=Y' at *;go_wp2_with fail
     go_quiet (fail)
     go_wp2_with fail;go_roundw
     case rel=>exact⟨k+1,by omega,by go_num,(fun j G=>by by_cases e:j=k;(rw[e];exact Q.out);exact F.out j (by omega)),aH hb ⟨rfl,rfl,rfl,B3 _,fun _ _=>rfl⟩⟩
     case measure=>simp[intOf];omega
   ·have Q:Hid (gt T k≠(X,Y)):=fun e=>D (by rw[O.out]at e;exact (Prod.mk.inj e).1);have nx:(tA T k==X)=false:=beq_eq_false_iff_ne.2 D;generalize tA T k=X' at *;generalize tB T k=Y' at *;go_wp2_with fail
    go_quiet (fail)
    go_wp2_with fail;go_roundw
    case rel=>exact⟨k+1,by omega,by go_num,(fun j G=>by by_cases e:j=k;(rw[e];exact Q.out);exact F.out j (by omega)),aH hb ⟨rfl,rfl,rfl,B3 _,fun _ _=>rfl⟩⟩
    case measure=>simp[intOf];omega
  ·obtain rfl:k=T.length:=by omega
   have N:Hid (decide ((X,Y)∈T)=false):=by
    show _=_
    rw[decide_eq_false_iff_not];intro e;obtain⟨j,G,e⟩:=oH e;exact F.out j G e
   go_wp2_with fail;go_ret;exact⟨by rw[N.out];rfl,A⟩
theorem qP (h:aW w B v l):∃ad a,v=.slice ad l.length a:=by
 rcases kE h with⟨rfl,rfl⟩|⟨g,a,c,rfl,_⟩
 ·exact⟨_,_,rfl⟩
 ·exact⟨_,_,rfl⟩
theorem AQ:∀(T G:LI),T.Nodup->(∀x∈T,x∈G)->T.length<=G.length
 | [],_,_,_=>E0 _
 | x::T,G,h,hs=>by
  rw[List.nodup_cons]at h;have hx:=hs x (by simp);have h1:=AQ T (G.erase x) h.2 (fun y a=>(List.mem_erase_of_ne (fun e=>h.1 (by rw[<- e];exact a))).2 (hs y (by simp[a])));have h2:=List.length_erase_of_mem hx;have h3:=List.length_pos_of_mem hx;simp only[oO];omega
structure lJ (l:List Rw)(T:LI)(i j:Nat):Prop where
 nd:T.Nodup
 inn:∀x∈T,x∈jT l
 rows:∀r∈l,r.1.2∈T
 joins:∀p q,p<i->q<p->jF (gt T p) (gt T q)∈T
 part:∀q,q<j->jF (gt T i) (gt T q)∈T
theorem lJ.len {l:List Rw}(h:lJ l T i j):T.length<=64:=BK (AQ T _ h.nd h.inn) (mG l)
theorem lJ.outer {l:List Rw}(h:lJ l T i i):lJ l T (i+1) 0:=
 ⟨h.nd,h.inn,h.rows,fun p q hp hq=>by
  by_cases e:p=i
  ·subst e;exact h.part q hq
  ·exact h.joins p q (by omega) hq,fun q hq=>by omega⟩
theorem lJ.same {l:List Rw}(h:lJ l T i j)(a:jF (gt T i) (gt T j)∈T):lJ l T i (j+1):=
 ⟨h.nd,h.inn,h.rows,h.joins,fun q hq=>by
  by_cases e:q=j
  ·subst e;exact a
  ·exact h.part q (by omega)⟩
theorem lJ.more {l:List Rw}(h:lJ l T i j)(hi:i<T.length)(s:j<i)(g:jF (gt T i) (gt T j) ∉ T):lJ l (T++[jF (gt T i) (gt T j)]) i (j+1):=by
 have hg:∀p,p<T.length->gt (T++[jF (gt T i) (gt T j)]) p=gt T p:=fun p hp=>Be hp;refine⟨?_,fun x hx=>?_,fun r hr=>iC _ (h.rows r hr),fun p q hp hq=>?_,fun q hq=>?_⟩
 ·rw[nU];refine⟨h.nd,by simp,fun a ha b hb=>?_⟩;simp at hb;subst hb;intro e;subst e;exact g ha
 ·rcases gY.1 hx with hx|hx
  ·exact h.inn x hx
  ·simp at hx;subst hx;exact Ff (h.inn _ (iH hi)) (h.inn _ (iH (by omega)))
 ·rw[hg p (by omega),hg q (by omega)];exact iC _ (h.joins p q hp hq)
 ·rw[hg i hi,hg q (by omega)]
  by_cases e:q=j
  ·subst e;simp
  ·exact iC _ (h.part q (by omega))
theorem lJ.fin {l:List Rw}(h:lJ l T i 0)(hi:T.length<=i):vD.filter (fun t=>decide (t∈T))=jT l:=by
 unfold jT;refine List.filter_congr fun t H=>?_;rw[Bool.eq_iff_iff,decide_eq_true_eq];constructor
 ·intro e;exact (k6.1 (h.inn t e)).2
 ·intro e;rw[qX]at e;obtain⟨p,hp,q,hq,G,F⟩:=e;obtain⟨a,ha,D⟩:=oH (h.rows p hp);obtain⟨b,hb,A⟩:=oH (h.rows q hq);have s:jF p.1.2 q.1.2=t:=Prod.ext G F;rw[<- s,<-D,<-A]
  rcases Nat.lt_trichotomy a b with g|g|g
  ·rw[EA];exact h.joins b a (by omega) g
  ·subst g;rw[Dn];exact iH ha
  ·exact h.joins a b (by omega) g
theorem Ae (w:sE)(a:B=w.heap.size):aW (w.alloc (.cells #[] 32)) B (.slice (some ⟨B,0,none⟩) 0 0) []:=by
 subst a;exact lZ w _ 2
structure mO (l:List Rw)(T:LI):Prop where
 nd:T.Nodup
 mem:∀x,x∈T↔x∈l.map fun r=>r.1.2
theorem mO.len {l:List Rw}(h:mO l T):T.length<=l.length:=by
 have:=AQ T _ h.nd (fun x hx=>(h.mem x).1 hx);rw[fD]at this;exact this
theorem mO.nil:mO [] []:=⟨by simp,by simp⟩
theorem mO.yes {l:List Rw}{r:Rw}(h:mO l T)(hr:r.1.2∈T):mO (l++[r]) T:=⟨h.nd,fun x=>by
 rw[h.mem,gZ,gY];constructor
 ·exact .inl
 ·rintro (e|e)
  ·exact e
  ·simp at e;subst e;exact (h.mem _).1 hr⟩
theorem mO.no {l:List Rw}{r:Rw}(h:mO l T)(hr:r.1.2 ∉ T):mO (l++[r]) (T++[r.1.2]):=⟨by
 rw[nU];refine⟨h.nd,by simp,fun a ha b hb=>?_⟩;simp at hb;subst hb;intro e;subst e;exact hr ha,fun x=>by
 rw[gZ,gY,gY,h.mem];simp⟩
theorem mO.start {l:List Rw}(h:mO l T)(a:aR l=true):lJ l T 0 0:=
 ⟨h.nd,fun x hx=>by
  obtain⟨r,hr,rfl⟩:=List.mem_map.1 ((h.mem x).1 hx);exact Fw a hr,fun r hr=>(h.mem _).2 (List.mem_map_of_mem hr),fun p q hp=>by omega,fun q hq=>by omega⟩
theorem KK (a b:Nat):eD a (b+1)=eD a b++[((a:Int),(b:Int))]:=by
 unfold eD;rw[qA,gZ];rfl
theorem Fp (a:Nat):gX (a+1)=gX a++eD a 8:=by
 unfold gX;rw[qA,List.flatMap_append];simp
theorem Am:∀x:Nat,(gX x).length=x*8
 | 0=>rfl
 | x+1=>by rw[Fp,jU,Am x];unfold eD;rw[fD,oJ];omega
theorem OV {x y:Nat}(hx:x<=8)(a:y<=8)(p:Int×Int->Bool):((gX x++eD x y).filter p).length<=2000000:=by
 have h1:=mF p (gX x++eD x y);have h2:(eD x y).length=y:=by unfold eD;rw[fD,oJ]
 rw[jU,Am,h2]at h1;omega
theorem yY (v:sG)(l:List Rw)(key:Int)(w:sE)(h:Rs w v l):
  wR Ga 255 #[v,.int .i64 key] w fun e w'=>∃o:sG,e=.returned o/\aW w' w.heap.size o (qU l key)/\rN w.heap.size w w':=by
 have HH:=(show Hid (Rs w v l) from h);obtain⟨a,l1,rfl,hc,hm,hn,y6⟩:=Rs.open h;unfold maxLen at hm;have HC:=(show Hid _ from y6);clear y6 h;obtain⟨L,f8,HL⟩:∃L,Hid (qU l key=jT L)/\Hid (aR L=true/\(aR l=true->L=aV l key)/\(aR l=false->L=[])):=by
  cases hk:aR l
  ·exact⟨[],by show _=_;unfold qU jT;rw[hk];exact (List.filter_eq_nil_iff.2 (fun x _=>by simp[Ai])).symm,by decide,by simp,by simp⟩
  ·exact⟨aV l key,by show _=_;unfold qU;rw[hk];rfl,vA hk key,by simp,by simp⟩
 have a8:rN w.heap.size w (w.alloc (.cells #[] 32)):=aG (EJ _ _) _;have b1:Hid (aW (w.alloc (.cells #[] 32)) w.heap.size (.slice (some ⟨w.heap.size,0,none⟩) 0 0) []):=Ae w rfl;go_enter Tryz.func255,Tryz.ntmps255;go_wp2_with fail
 go_loopw [5,6] (fun o b wr=>∃(k:Nat)(T:LI),k<=l.length/\b=.int .i64 k/\(0<k->aR l=true)/\aW wr w.heap.size o T/\mO (aV (l.take k) key) T/\rN w.heap.size w wr) (fun _ b _=>l.length-(intOf b).toNat)
 case atStart=>exact⟨0,[],by omega,rfl,by omega,b1.out,by simpa[aV]using mO.nil,a8⟩
 case round=>
  clear b1 a8;obtain⟨k,T,hk,rfl,v4,s,hT,hb⟩:=hrel;have I:Hid (aW wr w.heap.size u5 T):=s;have HT:Hid (mO (aV (l.take k) key) T):=hT;have HK:Hid (0<k->aR l=true):=v4;have f0:T.length<=2000000:=by
   have h1:=hT.len;have h2:=pW (l.take k) key;rw[fH]at h2
   by_cases h0:0<k
   ·have:=fP (v4 h0);omega
   ·omega
  obtain⟨y2,U,rfl⟩:=qP s;have b8:=hb.size;clear s hT v4
  by_cases z9:k<l.length
  case' pos=>
   have ii:((k:Int)<(l.length:Int)):=by omega
   cases R:aR l
  case pos.true=>
   obtain⟨g,off,K,V,A,B,D,rfl,hg,hr,c0,c1,c2,c3,c4⟩:=HC.out k z9;have HR:=(show Hid _ from hr);have q0:=cB hb c0;go_wp2_with fail;refine (sR R (HH.out.keep hb)).mono ?_;rintro e w1 ⟨rfl,x7⟩;have h9:=aH hb x7;have q0:=cB h9 c0;have q2:=cB h9 c2;have q3:=cB h9 c3;have y3:Hid (aW w1 w.heap.size (.slice y2 T.length U) T):=bJ I.out x7;have j2:=h9.size;clear c0 c1 c2 c3 c4 hr hb x7 I
   by_cases hK:K=key
   ·have HZ:=(show Hid (aV (l.take (k+1)) key=aV (l.take k) key++[(((K,V),(A,B)),D)]) from xG HR.out hK);subst hK
    by_cases O:(A,B)∈T
    ·have HN:Hid (mO (aV (l.take (k+1)) K) T):=by show mO _ _;rw[HZ.out];exact HT.out.yes O
     have hd:decide ((A,B)∈T)=true:=by simp[O]
     go_wp2_with fail;refine (m8 _ T A B w1 (aW.ts y3.out (by omega))).mono ?_;rw[hd];rintro e w2 ⟨rfl,x3⟩;have y5:=aH h9 x3;have f5:Hid (aW w2 w.heap.size (.slice y2 T.length U) T):=bJ y3.out x3;clear x3 h9;go_wp2_with fail;go_roundw
     case rel=>exact⟨k+1,T,by omega,by go_num,(fun _=>by first|exact R|trivial),f5.out,HN.out,y5⟩
     case measure=>simp[intOf];omega
    ·have HN:Hid (mO (aV (l.take (k+1)) K) (T++[(A,B)])):=by show mO _ _;rw[HZ.out];exact HT.out.no O
     have hd:decide ((A,B)∈T)=false:=by simp[O]
     go_wp2_with fail;refine (m8 _ T A B w1 (aW.ts y3.out (by omega))).mono ?_;rw[hd];rintro e w2 ⟨rfl,x3⟩;have q2:=cB x3 q2;have q3:=cB x3 q3;have y5:=aH h9 x3;have OW:=bJ y3.out x3;have j1:=y5.size;have HB:=i7 OW;clear x3 h9 y3
     go_wp2_with (at_builtin;refine GF _ rfl _ _ rfl w.heap.size _ T rfl (OW.alloc _) _ A B rfl (Bk.new _ _ rfl) (by omega) (by simp;omega) ?_;intro g3 k0 w3 b6 Z a6)
     have H:rN w.heap.size w w3:=Below.aO (aG y5 _) Z (by simp;omega) HB;go_roundw
     case rel=>exact⟨k+1,T++[(A,B)],by omega,by go_num,(fun _=>by first|exact R|trivial),b6,HN.out,H⟩
     case measure=>simp[intOf];omega
   ·have HZ:Hid (aV (l.take (k+1)) key=aV (l.take k) key):=AL HR.out hK;have nx:(K==key)=false:=beq_eq_false_iff_ne.2 hK;go_wp2_with fail;go_roundw
    case rel=>exact⟨k+1,T,by omega,by go_num,(fun _=>by first|exact R|trivial),y3.out,by rw[HZ.out];exact HT.out,h9⟩
    case measure=>simp[intOf];omega
  case' pos.false=>
   go_wp2_with fail;refine (sR R (HH.out.keep hb)).mono ?_;rintro e w1 ⟨rfl,x7⟩;have HG:Hid (aW w1 w.heap.size (.slice y2 T.length U) T/\lJ L T 0 0/\rN w.heap.size w w1):=by
    have e8:k=0:=by
     by_cases e:0<k
     ·have:=HK.out e;rw[R]at this;cases this
     ·omega
    have:=HT.out;rw[e8]at this;rw[HL.out.2.2 R];exact⟨bJ I.out x7,mO.start (by simpa[aV]using this) (by decide),aH hb x7⟩
   clear x7
  case' neg=>
   obtain rfl:k=l.length:=by omega
   have HG:Hid (aW wr w.heap.size (.slice y2 T.length U) T/\lJ L T 0 0/\rN w.heap.size w wr):=by
    have R:aR l=true:=by
     by_cases e:0<l.length
     ·exact HK.out e
     ·have:l=[]:=kX (by omega);subst this;decide
    have:=HT.out;rw[fV]at this;rw[HL.out.2.1 R];exact⟨I.out,mO.start this (vA R key),hb⟩
  all_goals
   clear I HT HK hb b8 HH HC;go_wp2_with fail
   go_loopw [5,7] (fun o b wr=>∃(i:Nat)(T:LI),i<=T.length/\b=.int .i64 i/\aW wr w.heap.size o T/\lJ L T i 0/\rN w.heap.size w wr) (fun _ b _=>64-(intOf b).toNat)
   case atStart=>exact⟨0,T,by omega,rfl,HG.out.1,HG.out.2.1,HG.out.2.2⟩
   case round=>
    clear HG f0;obtain⟨i,T,hi,rfl,s,hG,hb⟩:=hrel;have v6:=hG.len;obtain⟨y2,U,rfl⟩:=qP s;have I:Hid (aW wr w.heap.size (.slice y2 T.length U) T):=s;have HG:Hid (lJ L T i 0):=hG;clear s hG
    by_cases z9:i<T.length
    ·have ii:((i:Int)<(T.length:Int)):=by omega
     go_wp2_with fail
     go_loopw [5,8] (fun o b wr=>∃(j:Nat)(T:LI),j<=i/\i<T.length/\b=.int .i64 j/\aW wr w.heap.size o T/\lJ L T i j/\rN w.heap.size w wr) (fun _ b _=>i-(intOf b).toNat)
     case atStart=>exact⟨0,T,by omega,z9,rfl,I.out,HG.out,hb⟩
     case round=>
      clear HG I hb ii z9 v6;obtain⟨j,F,k4,u0,rfl,s,hG,hb⟩:=hrel;have v6:=hG.len
      by_cases c9:j<i
      ·obtain⟨g2,v7,e2,a5,a4⟩:=mQ s u0;obtain⟨k5,j5,f1,a3,a2⟩:=mQ s (i:=j) (by omega);subst e2;cases f1;have I:Hid (aW wr w.heap.size (.slice (some ⟨g2,0,none⟩) F.length v7) F):=s;have HG:Hid (lJ L F i j):=hG;have HJ:Hid ((iE (gt F i).1 (gt F i).2 (gt F j).1 (gt F j).2,iF (gt F i).1 (gt F i).2 (gt F j).1 (gt F j).2)=jF (gt F i) (gt F j)):=ER (hG.inn _ (iH u0)) (hG.inn _ (iH (by omega)));have ii:((i:Int)<(F.length:Int)):=by omega
       have ij:((j:Int)<(F.length:Int)):=by omega
       have ji:((j:Int)<(i:Int)):=by omega
       clear s hG;generalize (gt F i).1=A at*;generalize (gt F i).2=B at*;generalize (gt F j).1=N at*;generalize (gt F j).2=M at*;have HX:Hid (∀W,rN wr.heap.size wr W->(W.cell? ⟨g2,i*2,none⟩=some (.int .i64 A)/\W.cell? ⟨g2,i*2+1,none⟩=some (.int .i64 B))/\W.cell? ⟨g2,j*2,none⟩=some (.int .i64 N)/\W.cell? ⟨g2,j*2+1,none⟩=some (.int .i64 M)):=fun W hW=>⟨⟨cB hW a5,cB hW a4⟩,cB hW a3,cB hW a2⟩;have y4:rN wr.heap.size wr wr.drew:=(EJ _ _).drew;have g4:Hid (∀W wc,rN wr.heap.size wr W->rN W.heap.size W wc->rN wr.heap.size wr wc):=fun W wc h1 h2=>aH h1 h2;have b2:Hid (∀wc,rN (wr.alloc (.cells #[.int .i64 0,.int .i64 0] 32)).drew.heap.size (wr.alloc (.cells #[.int .i64 0,.int .i64 0] 32)).drew wc->rN wr.heap.size wr wc/\wc.frozen? ⟨wr.heap.size,0,none⟩=false/\wc.frozen? ⟨wr.heap.size,1,none⟩=false/\wc.cell? ⟨wr.heap.size,0,none⟩=some (.int .i64 0)/\wc.cell? ⟨wr.heap.size,1,none⟩=some (.int .i64 0)/\Hid (Bk wc wr.heap.size #[.int .i64 0,.int .i64 0] 32)):=fun wc x6=>by
        have hz:Bk wc wr.heap.size #[.int .i64 0,.int .i64 0] 32:=((Bk.new (w:=wr) _ _ rfl).drew).keep x6;exact⟨aH ((aG (EJ _ _) _).drew) x6,hz.free 0,hz.free 1,hz.two.1,hz.two.2.1,hz⟩
       go_wp2_with fail
       go_region_held3 (fun W=>(W.cell? ⟨g2,i*2,none⟩=some (.int .i64 A)/\W.cell? ⟨g2,i*2+1,none⟩=some (.int .i64 B))/\W.cell? ⟨g2,j*2,none⟩=some (.int .i64 N)/\W.cell? ⟨g2,j*2+1,none⟩=some (.int .i64 M))
        (first|exact HX.out _ Q|exact HX.out _ y4|exact HX.out _ (aG Q _)|exact HX.out _ (aG y4 _)|exact HX.out _ (aG (EJ _ _) _).drew|exact HX.out _ ((Q.setCell (B3 _) _).setCell (B3 _) _))
        (first
         | (go_at_call 130;with_reducible refine (m6 A B N M _).mono ?_;rintro e wc ⟨rfl,x6⟩;have Q:rN wr.heap.size wr wc:=aH y4 (id (α:=rN wr.drew.heap.size wr.drew wc) x6))
         | (go_at_call 130;with_reducible refine (m6 A B N M _).mono ?_;rintro e wc ⟨rfl,x6⟩;obtain⟨Q,z0,z1,z2,z3,ZB⟩:=b2.out wc x6))
       all_goals
        first
         | (have FB:Hid (rN wr.heap.size wr ((wc.setCell ⟨wr.heap.size,0,none⟩ (.int .i64 (iE A B N M))).setCell ⟨wr.heap.size,1,none⟩ (.int .i64 (iF A B N M)))):=(Q.setCell (B3 _) _).setCell (B3 _) _
            have FK:Hid (Bk ((wc.setCell ⟨wr.heap.size,0,none⟩ (.int .i64 (iE A B N M))).setCell ⟨wr.heap.size,1,none⟩ (.int .i64 (iF A B N M))) wr.heap.size #[.int .i64 (iE A B N M),.int .i64 (iF A B N M)] 32):=ZB.out.ag _ _;clear z0 z1 z2 z3 ZB;generalize ((wc.setCell ⟨wr.heap.size,0,none⟩ (.int .i64 (iE A B N M))).setCell ⟨wr.heap.size,1,none⟩ (.int .i64 (iF A B N M)))=W5 at*)
         | (have FB:Hid (rN wr.heap.size wr (wc.alloc (.cells #[.int .i64 (iE A B N M),.int .i64 (iF A B N M)] 32))):=aG Q _
            have FK:Hid (Bk (wc.alloc (.cells #[.int .i64 (iE A B N M),.int .i64 (iF A B N M)] 32)) wc.heap.size #[.int .i64 (iE A B N M),.int .i64 (iF A B N M)] 32):=Bk.new _ _ rfl;generalize (wc.alloc (.cells #[.int .i64 (iE A B N M),.int .i64 (iF A B N M)] 32))=W5 at*)
        have z4:Hid (aW W5 w.heap.size (.slice (some ⟨g2,0,none⟩) F.length v7) F):=bJ I.out FB.out;have u4:rN w.heap.size w W5:=aH hb FB.out;obtain⟨x0,x1,_,_⟩:=FK.out.two;generalize iE A B N M=JA at*;generalize iF A B N M=JB at*;clear b2 g4 HX FB FK y4 Q x6 I a5 a4 a3 a2 hb
        by_cases O:(JA,JB)∈F
        ·have HN:Hid (lJ L F i (j+1)):=HG.out.same (by rw[<- HJ.out];exact O);have hd:decide ((JA,JB)∈F)=true:=by simp[O]
         clear HJ;go_wp2_with fail;refine (m8 _ F JA JB W5 (aW.ts z4.out (by omega))).mono ?_;rw[hd];rintro e w6 ⟨rfl,H⟩;have v9:Hid (aW w6 w.heap.size (.slice (some ⟨g2,0,none⟩) F.length v7) F):=bJ z4.out H;have x2:=aH u4 H;clear H u4 x0 x1;go_wp2_with fail;go_roundw
         case rel=>exact⟨j+1,F,by omega,u0,by go_num,v9.out,HN.out,x2⟩
         case measure=>simp[intOf];omega
        ·have HN:Hid (lJ L (F++[(JA,JB)]) i (j+1)):=by
          show lJ _ _ _ _
          rw[HJ.out];exact HG.out.more u0 c9 (by rw[<- HJ.out];exact O)
         have hd:decide ((JA,JB)∈F)=false:=by simp[O]
         clear HJ;go_wp2_with fail;refine (m8 _ F JA JB W5 (aW.ts z4.out (by omega))).mono ?_;rw[hd];rintro e w6 ⟨rfl,H⟩;have y0:=cB H x0;have y1:=cB H x1;have OW:=bJ z4.out H;have x2:=aH u4 H;have b9:=x2.size;have HB:=i7 OW;clear H u4 x0 x1 z4
         go_wp2_with (at_builtin;refine GF _ rfl _ _ rfl w.heap.size _ F rfl (OW.alloc _) _ JA JB rfl (Bk.new _ _ rfl) (by omega) (by simp;omega) ?_;intro g8 d3 w8 z5 Z a6)
         have v5:rN w.heap.size w w8:=Below.aO (aG x2 _) Z (by simp;omega) HB;go_roundw
         case rel=>exact⟨j+1,F++[(JA,JB)],by omega,by rw[jU];omega,by go_num,z5,HN.out,v5⟩
         case measure=>simp[intOf];omega
      ·obtain rfl:j=i:=by omega
       have I:Hid (aW wr w.heap.size u5 F):=s;have f7:Hid (lJ L F (j+1) 0):=hG.outer;clear s hG;go_wp2_with fail;go_roundw
       case rel=>exact⟨j+1,F,by omega,by go_num,I.out,f7.out,hb⟩
       case measure=>simp[intOf];omega
    ·obtain rfl:i=T.length:=by omega
     obtain⟨Wc,rfl⟩:∃Wc,wr=Wc:=⟨_,rfl⟩;have g0:Hid (vD.filter (fun t=>decide (t∈T))=jT L):=HG.out.fin (B3 _);have b0:Hid (Ts wr (.slice y2 T.length U) T):=aW.ts I.out (by omega);have HE:Hid (aW (wr.alloc (.cells #[] 32)) wr.heap.size (.slice (some ⟨wr.heap.size,0,none⟩) 0 0) []):=Ae wr rfl;have a7:rN wr.heap.size wr (wr.alloc (.cells #[] 32)):=aG (EJ _ _) _;have v3:=hb.size;clear I HG;go_wp2_with fail;obtain⟨Wd,e9⟩:∃Wd,Wd=wr:=⟨_,rfl⟩;subst e9
     go_loopw [10,11] (fun o b wq=>∃x:Nat,x<=8/\b=.int .i64 x/\aW wq Wd.heap.size o ((gX x).filter fun t=>decide (t∈T))/\rN Wd.heap.size Wd wq) (fun _ b _=>8-(intOf b).toNat)
     case atStart=>exact⟨0,by omega,rfl,HE.out,a7⟩
     case round=>
      clear HE a7;obtain⟨x,hx,rfl,s,S⟩:=hrel;have I:Hid (aW wr Wd.heap.size u10 ((gX x).filter fun t=>decide (t∈T))):=s;clear s
      by_cases k2:x<8
      ·have gx:(x:Int)<=7:=by omega
       go_wp2_with fail
       go_loopw [10,12] (fun o b wq=>∃y:Nat,y<=8/\b=.int .i64 y/\aW wq Wd.heap.size o ((gX x++eD x y).filter fun t=>decide (t∈T))/\rN Wd.heap.size Wd wq) (fun _ b _=>8-(intOf b).toNat)
       case atStart=>exact⟨0,by omega,rfl,by have:=I.out;simpa[eD]using this,S⟩
       case round=>
        clear I S;obtain⟨y,hy,rfl,s,S⟩:=hrel;have I:Hid (aW wr Wd.heap.size u10 ((gX x++eD x y).filter fun t=>decide (t∈T))):=s;clear s;have i5:=S.size
        by_cases k1:y<8
        ·have gy:(y:Int)<=7:=by omega
         have HZ:Hid ((gX x++eD x (y+1)).filter (fun t=>decide (t∈T))=(gX x++eD x y).filter (fun t=>decide (t∈T))++[((x:Int),(y:Int))].filter (fun t=>decide (t∈T))):=by
          show _=_;rw[KK,<-List.append_assoc,kR]
         have k3:=OV hx hy (fun t=>decide (t∈T));generalize (gX x++eD x y).filter (fun t=>decide (t∈T))=G at*
         by_cases O:((x:Int),(y:Int))∈T
         ·have hd:decide (((x:Int),(y:Int))∈T)=true:=by simp[O]
          go_wp2_with fail;refine (m8 _ T (x:Int) (y:Int) wr (b0.out.keep S)).mono ?_;rw[hd];rintro e w6 ⟨rfl,H⟩;have OW:=bJ I.out H;have x2:=aH S H;have b9:=x2.size;have HB:=i7 OW;clear H I hd
          go_wp2_with (at_builtin;refine GF _ rfl _ _ rfl Wd.heap.size _ G rfl (OW.alloc _) _ (x:Int) (y:Int) rfl (Bk.new _ _ rfl) (by omega) (by simp;omega) ?_;intro g8 d3 w8 z5 Z a6)
          have v5:rN Wd.heap.size Wd w8:=Below.aO (aG x2 _) Z (by simp;omega) HB;go_roundw
          case rel=>exact⟨y+1,by omega,by go_num,by rw[HZ.out];simpa[O]using z5,v5⟩
          case measure=>simp[intOf];omega
         ·have hd:decide (((x:Int),(y:Int))∈T)=false:=by simp[O]
          go_wp2_with fail;refine (m8 _ T (x:Int) (y:Int) wr (b0.out.keep S)).mono ?_;rw[hd];rintro e w6 ⟨rfl,H⟩;have v9:Hid (aW w6 Wd.heap.size u10 G):=bJ I.out H;have x2:=aH S H;clear H I hd;go_wp2_with fail;go_roundw
          case rel=>exact⟨y+1,by omega,by go_num,by rw[HZ.out];simpa[O]using v9.out,x2⟩
          case measure=>simp[intOf];omega
        ·obtain rfl:y=8:=by omega
         go_wp2_with fail;go_roundw
         case rel=>exact⟨x+1,by omega,by go_num,by rw[Fp];exact I.out,S⟩
         case measure=>simp[intOf];omega
      ·obtain rfl:x=8:=by omega
       obtain⟨l2,l0,rfl⟩:=qP I.out;go_wp2_with fail;go_ret;refine⟨_,rfl,?_,hb.trans (S.mono v3)⟩;rw[f8.out,<-g0.out];exact bQ I.out v3
end Go.Proofs.YtbdpcngcbnoioaaGreatDoor
