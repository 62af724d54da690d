import Derived.Test.YtbdpcngcbnoioaaGreatDoorGqa
import Derived.Deep.RegionLaw
set_option maxRecDepth 100000
set_option maxHeartbeats 16000000
namespace Go.Proofs.YtbdpcngcbnoioaaGreatDoor
open Go.RowKit Go.Shelf
open Go renaming Value->fM,World->fQ,Oper->gD,info_parts->gM,Operand->gQ,Addr->gX,Calls->iM
open Go.RowKit.Below renaming heap_setCell->iP,refl->jB
open _root_.List renaming getElem?_eq_some_iff->jO,getElem?_eq_getElem->mO,length_pos_iff->nA,flatMap_append->nB
open Go.Proofs.Tryz renaming prog->nT,underlying27->nX
open Go.RowKit renaming Below->oU
open Go.Value renaming ownBlock->oW,slice->pU
variable {B b i:Nat}{c:Array fM}{l:LI}{p:Nat->Prop}{s u v:fM}{w:fQ}
section
variable {α:Type}{enc:α->List fM}{k:Nat}
theorem PS (H:0<k)(I:∀x,(enc x).length=k){l:List α}(h:pD enc k w v l):∃(ad:Option gX)(A:Nat),v=.slice ad l.length A/\(l≠[]->∃g off,ad=some ⟨g,off,none⟩/\∀j u,(l.flatMap enc)[j]?=some u->w.cell? ((⟨g,off,none⟩:gX).add j)=some u):=by
 obtain⟨a,A,rfl,R,hm,hn,h4⟩:=h;refine⟨a,A,rfl,fun hne=>?_⟩;have h0:0<l.length:=nA.2 hne;obtain⟨g,off,rfl,hg,_⟩:=h4 0 l[0] (mO h0);refine⟨g,off,rfl,fun j u J=>?_⟩;have G:j<l.length*k:=by
  have:=(jO.1 J).1
  rwa [lH I]at this
 have hq:j / k<l.length:=Nat.div_lt_of_lt_mul (by rw[Nat.mul_comm];exact G);have hr:j%k<k:=Nat.mod_lt _ H;obtain⟨S,O,e,_,c⟩:=h4 (j / k) l[j / k] (mO hq);simp only[Option.some.injEq,gX.mk.injEq]at e;obtain⟨rfl,rfl,_⟩:=e;have D:=c (j%k) hr;have M:=qH I l (mO hq) (j:=j%k) hr;have L:j / k*k+j%k=j:=by rw[Nat.mul_comm];exact Nat.div_add_mod j k
 rw[L]at M;rw[Nat.add_assoc,L]at D;rw[Go.WideShapes.add_plain];rw[D,<-M,J]
theorem Jh {A D:TypeId}{z:fM}{M:Nat}(G:nT.underlying A=some (.slice D))(H:(nT.info? D).map (fun i=>(i.zero,i.size,i.bytes))=some (some z,k,M))(L:∀x,(enc x).length=k)
  {l:List α} (h:pY enc k D w B v l) (ad:Option gX) (c:Nat) (I:TypeId):(Builtin.append_ #[A,A] I #[v,.slice ad 0 c]).run nT w=.ok v w:=by
 obtain⟨i0,hi,S,R,O⟩:=gM H;have hs:_root_.Go.Src nT i0.size A (.slice ad 0 c) 0 [] w:=by
  cases ad with
  | none=>exact _root_.Go.Src.ofNil w G c
  | some a=>exact _root_.Go.Src.ofSlice w G a 0 c [] (by simp) (by simp) (by simp)
 rcases fX h L with⟨rfl,rfl⟩|⟨g,J,Y,rfl,hg,W,T,U,hm,_⟩
 ·simp[Builtin.append_,run_underlying G,sizeOf,typeInfo,hi,hs.len,hs.cells]
 ·have:=run_append_room_src (P:=nT) w A A I D i0 G hi g 0 l.length J _ 0 [] hs (by omega) (by simp) (by simp);exact this
theorem Qs {o:gD}{a:Act}{Kk:Act->fQ->Prop}{Q:Exit->Act->fQ->Prop}{L I:TypeId}{z:fM}{S:Nat}(M:nT.underlying L=some (.slice I))(G:(nT.info? I).map (fun i=>(i.zero,i.size,i.bytes))=some (some z,k,S))(T:0<k)(x5:S<=1000)(x1:z.cells.size=k)(hk:∀x,(enc x).length=k)(x7:∀x,∀u∈enc x,u.oneCell'=true)
  (w:fQ) (s x:gQ) (ho:o.op=.call { callee:= .builtin .append,args:=#[s,x],argTypes:=#[L,L] })
  (A:Nat) (v:fM) (l:List α) (hs:a.eval s=v) (D:pY enc k I w A v l) (v2:fM) (m:List α) (hx:a.eval x=v2) (hR:pD enc k w v2 m) (hl:l.length+m.length<=2000000) (R:A<=w.heap.size)
  (h:∀v' H,pY enc k I H A v' (l++m)->w.grownBy H v.ownBlock->Kk (a.put o.dst v') H):gD.wp nT o a w Kk Q:=by
 obtain⟨i0,hi,x4,x3,x2⟩:=gM G;obtain⟨ad,U,rfl,W⟩:=PS T hk hR
 by_cases J:m=[]
 ·subst J;have Y:=Jh M G hk D ad U o.type;unfold gD.wp;simp[execOp,ho,resolve,invoke,builtin,hs,hx,Y,Result.andThen];exact h v w (by simpa using D) ⟨rfl,rfl,rfl,Nat.le_refl _,fun _ _ _=>rfl⟩
 ·obtain⟨g,off,rfl,O⟩:=W J;have Z:0<m.length:=nA.2 J;have x6:(l.length+m.length)*S<=140737488355328:=by
   have:=Nat.mul_le_mul hl x5;omega
  refine wp_append_lies w s x L ho A I i0 z k S M hi x4 x3 x2 x1 T v l.length (l.flatMap enc) hs D ⟨g,off,none⟩ m.length U (m.flatMap enc) hx (lH hk m) O (fun u M=>by obtain⟨x,_,hx⟩:=List.mem_flatMap.1 M;exact x7 x u hx) Z (by unfold maxLen;omega) x6 R w.heap.size rfl ?_;intro g' x9 H h1 h2 _ _;refine h _ H ?_ h2
  show H.ownsRow _ _ _ _ _ _
  rw[nB,List.length_append];exact h1
end
abbrev G4 (p:Int×Int):List fM:=[.int .i64 p.1,.int .i64 p.2]
theorem Ao (p:Int×Int):(G4 p).length=2:=rfl
theorem Lr (h:Ts w v l):pD G4 2 w v l:=by
 obtain⟨a,D,rfl,h1,h2,h3,h4⟩:=h;refine⟨a,D,rfl,h1,h2,h3,fun i x hi=>?_⟩;obtain⟨A,e⟩:=jO.1 hi;obtain⟨g,off,ha,hg,H,c1⟩:=h4 i A;refine⟨g,off,ha,hg,fun j I=>?_⟩;have e0:tA l i=x.1:=by simp[tA,hi]
 have G:tB l i=x.2:=by simp[tB,hi]
 obtain rfl|rfl:j=0\/j=1:=by omega
 ·rw[Nat.add_zero,H,e0];rfl
 ·rw[c1,G];rfl
section
variable {ops:Array gD}{rest:List gD}{o:gD}{a:Act}{Kk:Act->fQ->Prop}{Q:Exit->Act->fQ->Prop}{E:Prop}
theorem Nn (w:fQ)(J:o.guard=none)(s x:gQ)(ho:o.op=.call { callee:= .builtin .append,args:=#[s,x],argTypes:=#[27,27] })
  (A:Nat) (v:fM) (l:LI) (hs:a.eval s=v) (I:bW w A v l) (H:fM) (m:LI) (hx:a.eval x=H) (L:Ts w H m) (hl:l.length+m.length<=2000000) (G:A<=w.heap.size)
  (h:∀v' D,bW D A v' (l++m)->w.grownBy D v.ownBlock->wpList nT ops Q rest (a.put o.dst v') D):wpList nT ops Q (o::rest) a w:=
 wpList_plain J fun _ M=>Qs (enc:=G4) nX rV (by omega) (by omega) rfl Ao (fun p=>rY _ _) w s x ho A v l hs I H m hx (Lr L) hl G fun v' D h1 h2=>M _ _ (h v' D h1 h2)
theorem QL (w:fQ)(J:o.guard=none)(s x:gQ)(ho:o.op=.call { callee:= .builtin .append,args:=#[s,x],argTypes:=#[27,27] })
  (A:Nat) (v:fM) (l:LI) (hs:a.eval s=v) (I:bW w A v l) (H:fM) (m:LI) (hx:a.eval x=H) (L:Ts w H m) (hl:l.length+m.length<=2000000) (D:A<=w.heap.size)
  (h:∀v' G,bW G A v' (l++m)->w.grownBy G v.ownBlock->Kk (a.put o.dst v') G):if Region.wanted o (yielded ops a.tmps)=true then gD.wp nT o a w Kk Q else E:=by
 rw[if_pos (by simp[Region.wanted,J])];exact Qs (enc:=G4) nX rV (by omega) (by omega) rfl Ao (fun p=>rY _ _) w s x ho A v l hs I H m hx (Lr L) hl D h
end
attribute [local go_sem ↓] Go.wp_at_zero Go.wp_at_succ
def fJ (p:Nat->Prop)(w:fQ):PT->fM->Prop
 | .n0 _ _,s=>∃a c,s=.slice a 0 c
 | .n1 _ _ x,s=>∃g c sx,s=.slice (some ⟨g,0,none⟩) 1 c/\p g/\w.cell? ⟨g,0,none⟩=some (.int .i64 x.k)/\w.cell? ⟨g,1,none⟩=some (.int .i64 x.n)/\w.cell? ⟨g,2,none⟩=some sx/\fJ p w x sx
 | .n2 _ _ x y,s=>∃g c sx sy,s=.slice (some ⟨g,0,none⟩) 2 c/\p g/\w.cell? ⟨g,0,none⟩=some (.int .i64 x.k)/\w.cell? ⟨g,1,none⟩=some (.int .i64 x.n)/\w.cell? ⟨g,2,none⟩=some sx/\w.cell? ⟨g,3,none⟩=some (.int .i64 y.k)/\w.cell? ⟨g,4,none⟩=some (.int .i64 y.n)/\w.cell? ⟨g,5,none⟩=some sy/\fJ p w x sx/\fJ p w y sy
theorem fJ.sl {t:PT}(h:fJ p w t s):∃a c,s=.slice a t.len c:=by
 cases t with
 | n0 k n=>obtain⟨a,c,rfl⟩:=h;exact⟨_,_,rfl⟩
 | n1 k n x=>obtain⟨g,c,sx,rfl,_⟩:=h;exact⟨_,_,rfl⟩
 | n2 k n x y=>obtain⟨g,c,sx,sy,rfl,_⟩:=h;exact⟨_,_,rfl⟩
theorem fJ.move {p q:Nat->Prop}{w D:fQ}(H:∀g,p g->g<w.heap.size->q g/\D.heap[g]?=w.heap[g]?):∀{t:PT}{s:fM},fJ p w t s->fJ q D t s
 | .n0 _ _,_,h=>h
 | .n1 _ _ _,_,⟨g,c,sx,e,hp,h1,h2,h3,h4⟩=>
  have A:=H g hp (lC h1)
  ⟨g,c,sx,e,A.1,eX A.2 h1,eX A.2 h2,eX A.2 h3,fJ.move H h4⟩
 | .n2 _ _ _ _,_,⟨g,c,sx,sy,e,hp,h1,h2,h3,h4,h5,h6,h7,h8⟩=>
  have A:=H g hp (lC h1)
  ⟨g,c,sx,sy,e,A.1,eX A.2 h1,eX A.2 h2,eX A.2 h3,eX A.2 h4,eX A.2 h5,eX A.2 h6,fJ.move H h7,fJ.move H h8⟩
theorem fJ.kd {p:Nat->Prop}{B:Nat}{w:fQ}(H:∀g,p g->B<=g):∀{t:PT}{s:fM},fJ p w t s->dN B w t s
 | .n0 _ _,_,h=>h
 | .n1 _ _ _,_,⟨g,c,sx,e,hp,h1,h2,h3,h4⟩=>⟨g,0,c,sx,e,H g hp,h1,h2,h3,fJ.kd H h4⟩
 | .n2 _ _ _ _,_,⟨g,c,sx,sy,e,hp,h1,h2,h3,h4,h5,h6,h7,h8⟩=>⟨g,0,c,sx,sy,e,H g hp,h1,h2,h3,h4,h5,h6,fJ.kd H h7,fJ.kd H h8⟩
theorem Q0 {q:Nat->Prop}{t:PT}{sl:fM}{ps:List (Int×Int×fM)}(ho:oF w B sl ps)(hl:ps.length=t.len)
  (H:∀j k n s,ps[j]?=some (k,n,s)->k=(t.ab j).k/\n=(t.ab j).n/\fJ p w (t.ab j) s) (hq:∀g,B<=g->q g) (O:∀g,p g->q g):fJ q w t sl:=by
 have hm:∀{x:PT}{s:fM},fJ p w x s->fJ q w x s:=fJ.move fun g h _=>⟨O g h,rfl⟩
 rcases fX ho CL with⟨rfl,h0⟩|⟨g,D,c,e,-⟩
 ·subst h0;cases t with
  | n0 k n=>exact⟨_,_,rfl⟩
  | n1 k n x=>simp[PT.len]at hl
  | n2 k n x y=>simp[PT.len]at hl
 ·subst e;cases t with
  | n0 k n=>rw[hl];exact⟨_,_,rfl⟩
  | n1 k n x=>
   match ps,hl with
   | [(a,b,s)],_=>
    obtain⟨L,J,G⟩:=H 0 a b s rfl;obtain⟨I,A,c1,c2⟩:=oF.at ho (i:=0) rfl;refine⟨g,D,s,rfl,hq g I,?_,?_,by simpa using c2,hm G⟩
    ·rw[L]at A;simpa[PT.ab]using A
    ·rw[J]at c1;simpa[PT.ab]using c1
  | n2 k n x y=>
   match ps,hl with
   | [(a,b,s),(a',b',s')],_=>
    obtain⟨L,J,G⟩:=H 0 a b s rfl;obtain⟨T,S,M⟩:=H 1 a' b' s' rfl;obtain⟨I,A,c1,c2⟩:=oF.at ho (i:=0) rfl;obtain⟨_,R,d1,d2⟩:=oF.at ho (i:=1) rfl;refine⟨g,D,s,s',rfl,hq g I,?_,?_,by simpa using c2,?_,?_,by simpa using d2,hm G,hm M⟩
    ·rw[L]at A;simpa[PT.ab]using A
    ·rw[J]at c1;simpa[PT.ab]using c1
    ·rw[T]at R;simpa[PT.ab]using R
    ·rw[S]at d1;simpa[PT.ab]using d1
def AQ (t:PT)(w:fQ)(e:Ending)(w':fQ):Prop:=∃(a:Option gX)(c:Nat),e=.returned (pl t.k t.n (.slice a t.len c))/\fJ (fun g=>w.heap.size<=g) w' t (.slice a t.len c)/\oU w.heap.size w w'
structure M0 (t:PT)(w:fQ)(s:fM)(b3 k:Nat)(wr:fQ):Prop where
 le:k<=t.len
 ps:∃sl ps,ps.length=k/\Bk wr b3 #[.int .i64 t.k,.int .i64 t.n,sl] 25/\oF wr (b3+1) sl ps/\(∀j a b x,ps[j]?=some (a,b,x)->a=(t.ab j).k/\b=(t.ab j).n/\fJ (fun g=>b3<g/\sl.ownBlock≠some g) wr (t.ab j) x)
 arg:Bk wr w.heap.size #[.int .i64 t.k,.int .i64 t.n,s] 25
 res:Bk wr (w.heap.size+1) #[.int .i64 0,.int .i64 0,.slice none 0 0] 25
 ord:w.heap.size+1<b3
 bel:oU w.heap.size w wr
theorem Km {t:PT}{b3 k:Nat}{wr O J:fQ}{sl:fM}{ps:List (Int×Int×fM)}{b:Option gX}{m c g H:Nat}(y1:k<t.len)(R:ps.length=k)(T:Bk wr b3 #[.int .i64 t.k,.int .i64 t.n,sl] 25)(M:oF wr (b3+1) sl ps)
  (x3:∀j a b x,ps[j]?=some (a,b,x)->a=(t.ab j).k/\b=(t.ab j).n/\fJ (fun g=>b3<g/\sl.ownBlock≠some g) wr (t.ab j) x) (Y:Bk wr w.heap.size #[.int .i64 t.k,.int .i64 t.n,s] 25) (W:Bk wr (w.heap.size+1) #[.int .i64 0,.int .i64 0,.slice none 0 0] 25) (h9:w.heap.size+1<b3) (hb:oU w.heap.size w wr)
  (G:oU wr.heap.size wr O) (hk:fJ (fun g=>wr.heap.size<=g) O (t.ab k) (.slice b m c)) (hn:oF J (b3+1) (.slice (some ⟨g,0,none⟩) (ps.length+1) H) (ps++[((t.ab k).k,(t.ab k).n,.slice b m c)])) (hg:O.grownBy J sl.ownBlock) (S:sl.ownBlock=some g\/g=O.heap.size):
  M0 t w s b3 (k+1) (J.setCell ⟨b3,2,none⟩ (.slice (some ⟨g,0,none⟩) (ps.length+1) H)):=by
 have D:∀q,sl.ownBlock=some q->b3+1<=q/\q<wr.heap.size:=fun q e=>⟨bU M q e,oT M q e⟩;have y2:=T.lt;have y0:=G.size;have hne:sl.ownBlock≠some b3:=fun e=>by have:=(D _ e).1;omega
 have A:∀x,x≠b3->(J.setCell ⟨b3,2,none⟩ (.slice (some ⟨g,0,none⟩) (ps.length+1) H)).heap[x]?=J.heap[x]?:=fun x hx=>iP _ _ _ _ (by show _≠_;first|exact hx|exact fun e=>hx e.symm)
 refine⟨by omega,⟨_,ps++[((t.ab k).k,(t.ab k).n,.slice b m c)],by simp[R],(qJ (T.keep G) hg hne).set 2 _,fB hn fun x e=>A x (by have:=bU hn x e;omega),?_⟩,?_,?_,h9,?_⟩
 ·intro j a b' x I
  rcases Nat.lt_or_ge j k with h|h
  ·rw[List.getElem?_append_left (by omega)]at I;obtain⟨e,e',ok⟩:=x3 j a b' x I;refine⟨e,e',ok.move fun q hq L=>?_⟩;have U:(pU (some ⟨g,0,none⟩) (ps.length+1) H).ownBlock≠some q:=by
    intro e2;have Z:g=q:=by simpa[oW]using e2
    subst Z
    rcases S with h1|h1
    ·exact hq.2 h1
    ·omega
   refine⟨⟨hq.1,U⟩,?_⟩;rw[A q (by omega),hg.block q (by omega) (fun e=>hq.2 e.symm)];exact G.block q L
  ·have x4:j=k:=by
    have:=(jO.1 I).1;simp at this;omega
   subst x4;rw[List.getElem?_append_right (by omega),R,Nat.sub_self]at I;simp only[List.getElem?_cons_zero,Option.some.injEq,Prod.mk.injEq]at I;obtain⟨rfl,rfl,rfl⟩:=I;refine⟨rfl,rfl,hk.move fun q hq L=>?_⟩;have U:(pU (some ⟨g,0,none⟩) (ps.length+1) H).ownBlock≠some q:=by
    intro e2;have Z:g=q:=by simpa[oW]using e2
    subst Z
    rcases S with h1|h1
    ·have:=(D _ h1).2;omega
    ·omega
   refine⟨⟨by omega,U⟩,?_⟩;rw[A q (by omega)];exact hg.block q L (fun e=>by have:=(D _ e.symm).2;omega)
 ·have b2:=qJ (Y.keep G) hg (fun e=>by have:=(D _ e).1;omega);unfold Bk;rw[A _ (by omega)];exact b2
 ·have b2:=qJ (W.keep G) hg (fun e=>by have:=(D _ e).1;omega);unfold Bk;rw[A _ (by omega)];exact b2
 ·exact ((aG hb G).grown hg (by have:=hb.size;omega) (fun x e=>by have:=(D _ e).1;omega)).setCell (by show _<=b3;omega) _
section
variable {ops:Array gD}{o:gD}{a:Act}{Kk:Act->fQ->Prop}{Q:Exit->Act->fQ->Prop}{Ee:Prop}
theorem PU (w:fQ)(R:o.guard=none)(s x:gQ)(ho:o.op=.call { callee:= .builtin .append,args:=#[s,x],argTypes:=#[23,23] })
  (A:Nat) (v:fM) (l:List (Int×Int×fM)) (hs:a.eval s=v) (I:oF w A v l) (J:Nat) (k n:Int) (ad:Option gX) (i c:Nat) (hx:a.eval x=.slice (some ⟨J,0,none⟩) 1 1)
  (S:Bk w J #[.int .i64 k,.int .i64 n,.slice ad i c] 25) (hl:l.length<=2000000) (H:A<=w.heap.size)
  (h:∀g G D,oF D A (.slice (some ⟨g,0,none⟩) (l.length+1) G) (l++[(k,n,.slice ad i c)])->w.grownBy D v.ownBlock->(v.ownBlock=some g\/g=w.heap.size)->g<D.heap.size->Kk (a.put o.dst (.slice (some ⟨g,0,none⟩) (l.length+1) G)) D):
  if Region.wanted o (yielded ops a.tmps)=true then gD.wp nT o a w Kk Q else Ee:=by
 obtain⟨i0,hi,O,M,L⟩:=gM Px;refine step_append_lies w R s x 23 ho A 25 i0 _ 3 40 Tryz.underlying23 hi O M L rfl (by decide) v l.length (l.flatMap L6) hs I ⟨J,0,none⟩ 1 1 (L6 (k,n,.slice ad i c)) hx rfl (oJ S) (QD _ _ _ _ _) (by omega) (by unfold maxLen;omega) (by omega) H w.heap.size rfl ?_;intro g G D h1 h2 h3 h4;refine h g G D ?_ h2 h3 h4
 show D.ownsRow _ _ _ _ _ _
 rw[nB];simpa using h1
end
theorem sY {t:PT}(hs:dN B w t s)
  (Z:∀i,i<t.len->∀(W:fQ)(s':fM),dN B W (t.ab i) s'->iM nT 103 #[pl (t.ab i).k (t.ab i).n s'] W (AQ (t.ab i) W)):
  iM nT 103 #[pl t.k t.n s] w (AQ t w):=by
 have HR:=(show Hid _ from Z);have b0:=(show Hid (dN B w t s) from hs);obtain⟨a,c,rfl⟩:=hs.sl;have f4:=PT.cd t;have H:Bk (((w.alloc (.cells #[.int .i64 t.k,.int .i64 t.n,.slice a t.len c] 25)).alloc (.cells #[.int .i64 0,.int .i64 0,.slice none 0 0] 25)).alloc (.cells #[.int .i64 t.k,.int .i64 t.n,.slice none 0 0] 25)) w.heap.size #[.int .i64 t.k,.int .i64 t.n,.slice a t.len c] 25:=((Bk.new _ _ rfl).alloc _).alloc _;have I:Bk (((w.alloc (.cells #[.int .i64 t.k,.int .i64 t.n,.slice a t.len c] 25)).alloc (.cells #[.int .i64 0,.int .i64 0,.slice none 0 0] 25)).alloc (.cells #[.int .i64 t.k,.int .i64 t.n,.slice none 0 0] 25)) (w.heap.size+1) #[.int .i64 0,.int .i64 0,.slice none 0 0] 25:=(Bk.new _ _ (by simp)).alloc _;have bN:Bk (((w.alloc (.cells #[.int .i64 t.k,.int .i64 t.n,.slice a t.len c] 25)).alloc (.cells #[.int .i64 0,.int .i64 0,.slice none 0 0] 25)).alloc (.cells #[.int .i64 t.k,.int .i64 t.n,.slice none 0 0] 25)) (w.heap.size+2) #[.int .i64 t.k,.int .i64 t.n,.slice none 0 0] 25:=Bk.new _ _ (by simp);have z5:oU w.heap.size w (((w.alloc (.cells #[.int .i64 t.k,.int .i64 t.n,.slice a t.len c] 25)).alloc (.cells #[.int .i64 0,.int .i64 0,.slice none 0 0] 25)).alloc (.cells #[.int .i64 t.k,.int .i64 t.n,.slice none 0 0] 25)):=aH (aH (aH (jB _ _) _) _) _;have z8:Bk ((w.alloc (.cells #[.int .i64 t.k,.int .i64 t.n,.slice a t.len c] 25)).alloc (.cells #[.int .i64 0,.int .i64 0,.slice none 0 0] 25)) w.heap.size #[.int .i64 t.k,.int .i64 t.n,.slice a t.len c] 25:=(Bk.new _ _ rfl).alloc _;obtain⟨v0,v1,v2⟩:=z8.aR;obtain⟨x0,x1,x2⟩:=H.aR;clear hs Z z8;go_enter Tryz.func103,Tryz.ntmps103;go_wp2_with fail;clear v0 v1 v2 x0 x1 x2;generalize (((w.alloc (.cells #[.int .i64 t.k,.int .i64 t.n,.slice a t.len c] 25)).alloc (.cells #[.int .i64 0,.int .i64 0,.slice none 0 0] 25)).alloc (.cells #[.int .i64 t.k,.int .i64 t.n,.slice none 0 0] 25))=W0 at*
 go_loopw [4] (fun i wr=>∃k:Nat,i=.int .i64 k/\M0 t w (.slice a t.len c) (w.heap.size+2) k wr) (fun i _=>t.len-(intOf i).toNat)
 case atStart=>exact⟨0,rfl,Nat.zero_le _,⟨_,[],rfl,bN,oN _ _ _ _ _,fun j a b x h=>by simp at h⟩,H,I,by omega,z5⟩
 case round=>
  clear H I bN z5;obtain⟨k,rfl,HI⟩:=hrel;obtain⟨f5,⟨sl,ps,x3,G,x4,z3⟩,H,I,h9,hb⟩:=HI;have HP:=(show Hid _ from z3);have HO:=(show Hid (oF wr (w.heap.size+2+1) sl ps) from x4);clear x4 z3
  by_cases A:k<t.len
  ·have ik:((k:Int)<(t.len:Int)):=by omega
   obtain⟨g,off,sx,rfl,f6,c0,c1,c2,x7,b2,m2,d2,rfl⟩:=(b0.out.keep hb).at A;obtain⟨z9,y6,z7,a4⟩:∃a n c,sl=.slice a n c:=by
    rcases fX HO.out CL with⟨h1,_⟩|⟨g1,e3,f7,h1,_⟩
    ·exact⟨_,_,_,h1⟩
    ·exact⟨_,_,_,h1⟩
   subst a4;have HW:Hid (∀V,oU wr.heap.size wr V->V.cell? ⟨w.heap.size+2,2,none⟩=some (.slice z9 y6 z7)/\V.cell? ⟨w.heap.size,2,none⟩=some (.slice (some ⟨g,off,none⟩) t.len c)/\V.cell? ⟨g,off+k*3,none⟩=some (.int .i64 (t.ab k).k)/\V.cell? ⟨g,off+k*3+1,none⟩=some (.int .i64 (t.ab k).n)/\V.cell? ⟨g,off+k*3+2,none⟩=some (.slice b2 m2 d2)):=fun V J=>⟨(G.keep J).aR.2.2,(H.keep J).aR.2.2,cB J c0,cB J c1,cB J c2⟩;have a2:oU wr.heap.size wr wr:=jB _ _;have hd:oU wr.heap.size wr wr.drew:=a2.drew;have HK:=(show Hid _ from fun (V:fQ) (J:oU wr.heap.size wr V)=>HR.out k A V _ (x7.keep J));have HB:=(show Hid (Bk wr (w.heap.size+2) #[.int .i64 t.k,.int .i64 t.n,.slice z9 y6 z7] 25) from G);have b7:=(show Hid _ from H);have b1:=(show Hid _ from I);have w8:w.heap.size+2+1<=wr.heap.size:=by have:=G.lt;omega
   obtain⟨p0,p1,p2⟩:=G.aR;obtain⟨z0,z1,z2⟩:=H.aR;clear x7 H I G;go_wp2_with fail;clear c0 c1 c2;obtain⟨i1,i2,i3,i4,i5⟩:=HW.out _ (jB _ _);obtain⟨j1,j2,j3,j4,j5⟩:=HW.out _ hd
   go_region_law (first
    | (go_simp;go_at_call 103;refine iM.mono (HK.out _ hd) ?_;rintro e M ⟨a7,c7,rfl,y7,z4⟩;have L:oU wr.heap.size wr M:=aG hd z4;have D:oU wr.heap.size wr (M.alloc (.cells #[.int .i64 (t.ab k).k,.int .i64 (t.ab k).n,.slice a7 (t.ab k).len c7] 25)):=aH L _;obtain⟨q0,T,S⟩:=(HB.out.keep L).aR;obtain⟨r0,r1,r2⟩:=(HB.out.keep D).aR;have bn:Bk (M.alloc (.cells #[.int .i64 (t.ab k).k,.int .i64 (t.ab k).n,.slice a7 (t.ab k).len c7] 25)) M.heap.size #[.int .i64 (t.ab k).k,.int .i64 (t.ab k).n,.slice a7 (t.ab k).len c7] 25:=Bk.new _ _ rfl;have x6:=cC HO.out D;have y8:=Nat.le_trans w8 D.size;obtain⟨l1,l2,l3,l4,l5⟩:=HW.out _ L;obtain⟨m1,f3,m3,m4,m5⟩:=HW.out _ D)
    | (refine PU _ rfl _ _ rfl (w.heap.size+2+1) _ ps rfl x6 _ _ _ _ _ _ rfl bn (by omega) y8 ?_;intro g9 v6 w9 U x8 x5 a1;have R:=qJ (HB.out.keep D) x8 (fun e=>by have:=bU x6 _ e;omega);obtain⟨y0,y1,y2⟩:=R.aR;have f2:=R.free 2))
   all_goals
    have HN:Hid (M0 t w (.slice (some ⟨g,off,none⟩) t.len c) (w.heap.size+2) (k+1) (w9.setCell ⟨w.heap.size+2,2,none⟩ (.slice (some ⟨g9,0,none⟩) (ps.length+1) v6))):=Km A x3 HB.out HO.out HP.out b7.out b1.out h9 hb D (y7.move fun q hq a0=>⟨Nat.le_trans hd.size hq,(aH (jB M.heap.size M) _).block q a0⟩) U x8 x5;have b4:Hid (k<t.len):=A;clear U x8 x5 a1 R y0 y1 y2 f2 y7 z4 L D q0 T S r0 r1 r2 bn x6 y8 p0 p1 p2 A;go_wp2_with fail;go_roundw
    case rel=>
     have h:=HN.out;rw[x3]at h;exact⟨k+1,by go_num,h⟩
    case measure=>have:=b4.out;simp[intOf];omega
  ·obtain rfl:k=t.len:=by omega
   have ik:¬((t.len:Int)<(t.len:Int)):=by omega
   obtain⟨p0,p1,p2⟩:=G.aR;obtain⟨g0,f9,f8⟩:=H.aR;have kp:fJ (fun g=>w.heap.size+2<g) wr t sl:=Q0 HO.out x3 HP.out (fun g h=>h) (fun g h=>h.1);obtain⟨O,c5,e5⟩:=kp.sl;subst e5;have f0:=I.free 0;have T:=I.set 0 (.int .i64 t.k);have f1:=T.free 1;have S:=T.set 1 (.int .i64 t.n);have f2:=S.free 2;have q3:Bk (((wr.setCell ⟨w.heap.size+1,0,none⟩ (.int .i64 t.k)).setCell ⟨w.heap.size+1,1,none⟩ (.int .i64 t.n)).setCell ⟨w.heap.size+1,2,none⟩ (.slice O t.len c5)) (w.heap.size+1) #[.int .i64 t.k,.int .i64 t.n,.slice O t.len c5] 25:=S.set 2 _;obtain⟨y0,y1,y2⟩:=q3.aR;obtain⟨r0,r1,r2⟩:=I.aR;have Y:∀x,x≠w.heap.size+1->(((wr.setCell ⟨w.heap.size+1,0,none⟩ (.int .i64 t.k)).setCell ⟨w.heap.size+1,1,none⟩ (.int .i64 t.n)).setCell ⟨w.heap.size+1,2,none⟩ (.slice O t.len c5)).heap[x]?=wr.heap[x]?:=fun x hx=>((iP _ _ _ _ hx).trans (iP _ _ _ _ hx)).trans (iP _ _ _ _ hx);have b5:=(show Hid _ from kp.move (q:=fun g=>w.heap.size<=g) fun x hx _=>⟨by omega,Y x (by omega)⟩);have b6:Hid (oU w.heap.size w (((wr.setCell ⟨w.heap.size+1,0,none⟩ (.int .i64 t.k)).setCell ⟨w.heap.size+1,1,none⟩ (.int .i64 t.n)).setCell ⟨w.heap.size+1,2,none⟩ (.slice O t.len c5))):=((hb.setCell (by simp) _).setCell (by simp) _).setCell (by simp) _;clear kp T S q3 Y HO HP G H I hb;go_wp2_with fail;refine bodyPost_ret (v:=pl t.k t.n (.slice O t.len c5)) (by simp[results,Tryz.results103,go_sem,y0,y1,y2];try rfl) rfl ?_;exact⟨O,c5,rfl,b5.out,b6.out⟩
theorem nW:∀(t:PT){B:Nat}{s:fM}{w:fQ},dN B w t s->iM nT 103 #[pl t.k t.n s] w (AQ t w)
 | .n0 _ _,_,_,_,hs=>sY hs fun i hi=>by simp[PT.len]at hi
 | .n1 _ _ x,_,_,_,hs=>sY hs fun i _ W s' h=>nW x h
 | .n2 _ _ x y,_,_,_,hs=>sY hs fun i _ W s' h=>by
  cases i with
  | zero=>exact nW x h
  | succ i=>exact nW y h
attribute [local go_sem ↓] Go.wp_at_zero Go.wp_at_succ
structure qF (w:fQ)(B:Nat)(sp si sf sd:fM)(s:SS):Prop where
 kd:fJ (fun g=>B<=g/\si.ownBlock≠some g) w s.t sp
 ly:∃vs,i7 w B si vs/\j7 w B vs s.K
 ts:bW w B sf s.f
 rs:aC w B sd s.d
def MQ (s:SS):Prop:=s.K.length<=1000/\(∀l∈s.K,l.length<=1000)/\s.f.length<=1000/\s.d.length<=1000
theorem qF.ses {A D G H:fM}{s:SS}(h:qF w B A D G H s)(hf:MQ s):gE w A D G H s:=by
 obtain⟨vs,h1,h2⟩:=h.ly;obtain⟨M,L,J,I⟩:=hf;exact⟨h.kd.kd fun g _=>Nat.zero_le _,h2.ly h1 (by rw[h2.1];omega),bW.ts h.ts (by omega),aC.rs h.rs (by omega)⟩
theorem EK {s:SS}{r:List Rw}(h:dI s=some r):MQ s:=by
 obtain⟨h1,h2,h3⟩:=fW.1 h;obtain⟨a,b,e,-,ha,D,hr⟩:=nH h2;have J:=i6 (jA ha);have I:=i6 (jA D);have H:=i6 (jA (lU hr));have G:=oS h1;have A:=lS s.f r;rw[h3]at A;refine⟨by rw[e];simp,fun l hl=>?_,by omega,by omega⟩;rw[e]at hl;simp only[List.mem_cons,List.not_mem_nil,or_false]at hl
 rcases hl with rfl|rfl<;>omega
theorem j7.dm {vs:List fM}{K:List (List Rw)}(h:j7 w B vs K)(A:Bk w b c 30):j7 (w.setCell ⟨b,i,none⟩ v) B vs K:=
 ⟨h.1,fun j u l h1 h2=>by
  have ho:=h.2.1 j u l h1 h2;refine fB ho fun q e=>iP _ _ _ _ ?_;obtain⟨d,hd⟩:=iQ ho e;exact bK hd A (by decide),h.2.2⟩
theorem n9 (h:bW w B v l){q:Nat}(e:v.ownBlock=some q):∃c:Array fM,Bk w q c 32:=by
 rcases mZ h with⟨rfl,_⟩|⟨g,D,c,rfl,_,A,_⟩
 ·simp[oW]at e
 ·simp[oW]at e;subst e;exact⟨c,A⟩
theorem JC (h:bW w B u l)(A:Bk w b c 30):bW (w.setCell ⟨b,i,none⟩ v) B u l:=
 fB h fun q e=>iP _ _ _ _ (by
  obtain⟨d,hd⟩:=n9 h e;exact bK hd A (by decide))
theorem Gl {l:List Rw}(h:aC w B u l)(A:Bk w b c 30):aC (w.setCell ⟨b,i,none⟩ v) B u l:=
 fB h fun q e=>iP _ _ _ _ (by
  obtain⟨d,hd⟩:=iQ h e;exact bK hd A (by decide))
theorem Bc (h:bW w B v l):∃a c,v=.slice a l.length c:=by
 rcases fX (enc:=G4) h Ao with⟨rfl,rfl⟩|⟨g,A,c,rfl,_⟩
 ·exact⟨_,_,rfl⟩
 ·exact⟨_,_,rfl⟩
theorem fJ.set {t:PT}(h:fJ p w t s)(hp:∀g,p g->g≠b):fJ p (w.setCell ⟨b,i,none⟩ v) t s:=
 h.move fun g hg _=>⟨hg,iP _ _ _ _ (hp g hg)⟩
theorem fJ.keep {A:fQ}{t:PT}(h:fJ p w t s)(D:oU w.heap.size w A):fJ p A t s:=
 h.move fun g hg hl=>⟨hg,D.block g hl⟩
theorem fJ.aU {A:fQ}{t:PT}{row:Option Nat}(h:fJ p w t s)(hg:w.grownBy A row)(hr:∀g,p g->row≠some g):fJ p A t s:=
 h.move fun g hp hl=>⟨hp,hg.block g hl fun e=>hr g hp e.symm⟩
structure Nl (s:SS)(w:fQ)(arg:Array fM)(b M k:Nat)(kids F T:fM)(fL:LI)(dL:List Rw)(wr:fQ):Prop where
 le:k<=s.K.length
 ps:∃lv vs,i7 wr M lv vs/\j7 wr M vs (s.K.take k)/\Bk wr b #[.int .i64 s.t.k,.int .i64 s.t.n,kids,lv,F,T] 30
 kd:fJ (fun g=>w.heap.size+2<=g/\g<M/\g≠b) wr s.t kids
 ot:bW wr (w.heap.size+2) F fL
 orr:aC wr (w.heap.size+2) T dL
 arg:Bk wr w.heap.size arg 30
 res:Bk wr (w.heap.size+1) #[.int .i64 0,.int .i64 0,.slice none 0 0,.slice none 0 0,.slice none 0 0,.slice none 0 0] 30
 ord:w.heap.size+2<=b
 oM:b<M
 bel:oU w.heap.size w wr
theorem NS {s:SS}{x0:Array fM}{M k:Nat}{D F T O S:fM}{fL:LI}{dL:List Rw}{vs:List fM}{l:List Rw}{wr R L:fQ}(Z:s.K[k]?=some l)(hl:l.length<=1000000)(J:i7 wr M O vs)(y0:j7 wr M vs (s.K.take k))(h9:Bk wr b #[.int .i64 s.t.k,.int .i64 s.t.n,D,O,F,T] 30)
  (x9:fJ (fun g=>w.heap.size+2<=g/\g<M/\g≠b) wr s.t D) (x6:bW wr (w.heap.size+2) F fL) (x7:aC wr (w.heap.size+2) T dL) (W:Bk wr w.heap.size x0 30) (U:Bk wr (w.heap.size+1) #[.int .i64 0,.int .i64 0,.slice none 0 0,.slice none 0 0,.slice none 0 0,.slice none 0 0] 30) (x1:w.heap.size+2<=b) (x8:b<M) (hb:oU w.heap.size w wr) (hM:M<=wr.heap.size) (A:oU wr.heap.size wr R) (hu:aC R wr.heap.size u l)
  (hn:i7 L M S (vs++[u])) (hg:R.grownBy L O.ownBlock):Nl s w x0 b M (k+1) D F T fL dL (L.setCell ⟨b,3,none⟩ S):=by
 have hne:∀{q b:Nat}{c:Array fM},O.ownBlock=some q->Bk wr b c 30->b≠q:=fun e y1=>by
  obtain⟨d,hd⟩:=nY J e;exact bK y1 hd (by decide)
 have H:∀x,x≠b->(L.setCell ⟨b,3,none⟩ S).heap[x]?=L.heap[x]?:=fun x hx=>iP _ _ _ _ hx;have I:i7 R M O vs:=cC J A;have y5:=A.size;have Y:Bk L b #[.int .i64 s.t.k,.int .i64 s.t.n,D,O,F,T] 30:=(h9.keep A).aU hg fun q e=>hne e h9;refine⟨by have:=(jO.1 Z).1;omega,⟨S,vs++[u],fB hn fun q e=>H q (by have:=bU hn q e;omega),?_,Y.set 3 S⟩,?_,?_,?_,?_,?_,x1,x8,?_⟩
 ·refine j7.dm ?_ Y;rw[fK Z];exact ((y0.keep A).snoc (cW hu hM) hl).aU I hg
 ·refine fJ.set (fJ.aU (x9.keep A) hg fun g hp e=>?_) fun g hp=>hp.2.2;have:=bU J g e;omega
 ·have G:bW R (w.heap.size+2) F fL:=cC x6 A;refine JC (fB G fun q e=>hg.block q (oT G q e) fun e'=>?_) Y;obtain⟨c,hc⟩:=n9 G e;obtain⟨d,hd⟩:=nY I e'.symm;exact bK hc hd (by decide) rfl
 ·have G:aC R (w.heap.size+2) T dL:=cC x7 A;refine Gl (fB G fun q e=>hg.block q (oT G q e) fun e'=>?_) Y;obtain⟨c,hc⟩:=iQ G e;obtain⟨d,hd⟩:=nY I e'.symm;exact bK hc hd (by decide) rfl
 ·unfold Bk;rw[H _ (by omega)];exact (W.keep A).aU hg fun q e=>hne e W
 ·unfold Bk;rw[H _ (by omega)];exact (U.keep A).aU hg fun q e=>hne e U
 ·exact ((aG hb A).grown hg (by have:=hb.size;omega) (fun x e=>by have:=bU J x e;omega)).setCell (by show _<=b;omega) _
end Go.Proofs.YtbdpcngcbnoioaaGreatDoor
