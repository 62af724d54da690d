import Derived.Test.YtbdpcngcbnoioaaGreatDoorGqa
import Derived.Deep.RegionLaw
set_option maxRecDepth 100000
set_option maxHeartbeats 16000000
namespace Go.Proofs.YtbdpcngcbnoioaaGreatDoor
open Go.RowKit Go.Shelf
open Go.RowKit.Below renaming heap_setCell->fD,refl->fH
open Go renaming Value->fV,World->gY,Calls->gZ,bodyPost_ret->iC,Oper->jU,info_parts->kR,Operand->kX,Addr->lI
open Go.RowKit renaming Below->lY
open _root_.List renaming getElem?_eq_some_iff->mF,getElem?_eq_getElem->mJ,length_pos_iff->nU,flatMap_append->oJ
open Go.Proofs.Tryz renaming prog->oO,underlying27->qA
open _root_.Nat renaming le_trans->rN,zero_le->sE,mul_comm->sG
open Go.Value renaming ownBlock->sH,slice->sI
variable {B b i:Nat}{c:Array fV}{l:LI}{p:Nat->Prop}{s u v:fV}{vs:List fV}{w:gY}
section
variable {α:Type}{enc:α->List fV}{k:Nat}
theorem Ln (G:0<k)(H:∀x,(enc x).length=k){l:List α}(h:tY enc k w v l):∃(ad:Option lI)(A:Nat),v=.slice ad l.length A/\(l≠[]->∃g off,ad=some ⟨g,off,none⟩/\∀j u,(l.flatMap enc)[j]?=some u->w.cell? ((⟨g,off,none⟩:lI).add j)=some u):=by
 obtain⟨a,A,rfl,N,hm,hn,h4⟩:=h;refine⟨a,A,rfl,fun hne=>?_⟩;have h0:0<l.length:=nU.2 hne;obtain⟨g,off,rfl,hg,_⟩:=h4 0 l[0] (mJ h0);refine⟨g,off,rfl,fun j u I=>?_⟩;have F:j<l.length*k:=by
  have:=(mF.1 I).1
  rwa [lX H]at this
 have hq:j / k<l.length:=Nat.div_lt_of_lt_mul (by rw[sG];exact F);have hr:j%k<k:=Nat.mod_lt _ G;obtain⟨O,M,e,_,c⟩:=h4 (j / k) l[j / k] (mJ hq);simp only[Option.some.injEq,lI.mk.injEq]at e;obtain⟨rfl,rfl,_⟩:=e;have D:=c (j%k) hr;have L:=rI H l (mJ hq) (j:=j%k) hr;have J:j / k*k+j%k=j:=by rw[sG];exact Nat.div_add_mod j k
 rw[J]at L;rw[Nat.add_assoc,J]at D;rw[Go.WideShapes.add_plain];rw[D,<-L,I]
theorem IU {A D:TypeId}{z:fV}{L:Nat}(F:oO.underlying A=some (.slice D))(G:(oO.info? D).map (fun i=>(i.zero,i.size,i.bytes))=some (some z,k,L))(J:∀x,(enc x).length=k)
  {l:List α} (h:pB enc k D w B v l) (ad:Option lI) (c:Nat) (H:TypeId):(Builtin.append_ #[A,A] H #[v,.slice ad 0 c]).run oO w=.ok v w:=by
 obtain⟨i0,hi,O,N,M⟩:=kR G;have hs:_root_.Go.Src oO i0.size A (.slice ad 0 c) 0 [] w:=by
  cases ad with
  | none=>exact _root_.Go.Src.ofNil w F c
  | some a=>exact _root_.Go.Src.ofSlice w F a 0 c [] (by simp) (by simp) (by simp)
 rcases gE h J with⟨rfl,rfl⟩|⟨g,I,U,rfl,hg,T,R,S,hm,_⟩
 ·simp[Builtin.append_,run_underlying F,sizeOf,typeInfo,hi,hs.len,hs.cells]
 ·have:=run_append_room_src (P:=oO) w A A H D i0 F hi g 0 l.length I _ 0 [] hs (by omega) (by simp) (by simp);exact this
theorem Jy {o:jU}{a:Act}{Kk:Act->gY->Prop}{Q:Exit->Act->gY->Prop}{J H:TypeId}{z:fV}{O:Nat}(L:oO.underlying J=some (.slice H))(F:(oO.info? H).map (fun i=>(i.zero,i.size,i.bytes))=some (some z,k,O))(R:0<k)(x3:O<=1000)(h9:z.cells.size=k)(Y:∀x,(enc x).length=k)(x5:∀x,∀u∈enc x,u.oneCell'=true)
  (w:gY) (s x:kX) (ho:o.op=.call { callee:= .builtin .append,args:=#[s,x],argTypes:=#[J,J] })
  (A:Nat) (v:fV) (l:List α) (hs:a.eval s=v) (D:pB enc k H w A v l) (Z:fV) (m:List α) (hx:a.eval x=Z) (hR:tY enc k w Z m) (hl:l.length+m.length<=2000000) (N:A<=w.heap.size)
  (h:∀v' G,pB enc k H G A v' (l++m)->w.grownBy G v.ownBlock->Kk (a.put o.dst v') G):jU.wp oO o a w Kk Q:=by
 obtain⟨i0,hi,x2,x1,x0⟩:=kR F;obtain⟨ad,S,rfl,T⟩:=Ln R Y hR
 by_cases I:m=[]
 ·subst I;have U:=IU L F Y D ad S o.type;unfold jU.wp;simp[execOp,ho,resolve,invoke,builtin,hs,hx,U,Result.andThen];exact h v w (by simpa using D) ⟨rfl,rfl,rfl,Nat.le_refl _,fun _ _ _=>rfl⟩
 ·obtain⟨g,off,rfl,M⟩:=T I;have W:0<m.length:=nU.2 I;have x4:(l.length+m.length)*O<=140737488355328:=by
   have:=Nat.mul_le_mul hl x3;omega
  refine wp_append_lies w s x J ho A H i0 z k O L hi x2 x1 x0 h9 R v l.length (l.flatMap enc) hs D ⟨g,off,none⟩ m.length S (m.flatMap enc) hx (lX Y m) M (fun u L=>by obtain⟨x,_,hx⟩:=List.mem_flatMap.1 L;exact x5 x u hx) W (by unfold maxLen;omega) x4 N w.heap.size rfl ?_;intro g' x7 G h1 h2 _ _;refine h _ G ?_ h2
  show G.ownsRow _ _ _ _ _ _
  rw[oJ,List.length_append];exact h1
end
abbrev Br (p:Int×Int):List fV:=[.int .i64 p.1,.int .i64 p.2]
theorem vC (p:Int×Int):(Br p).length=2:=rfl
theorem D9 (h:Ts w v l):tY Br 2 w v l:=by
 obtain⟨a,D,rfl,h1,h2,h3,h4⟩:=h;refine⟨a,D,rfl,h1,h2,h3,fun i x hi=>?_⟩;obtain⟨A,e⟩:=mF.1 hi;obtain⟨g,off,ha,hg,G,c1⟩:=h4 i A;refine⟨g,off,ha,hg,fun j H=>?_⟩;have e0:tA l i=x.1:=by simp[tA,hi]
 have F:tB l i=x.2:=by simp[tB,hi]
 obtain rfl|rfl:j=0\/j=1:=by omega
 ·rw[Nat.add_zero,G,e0];rfl
 ·rw[c1,F];rfl
section
variable {ops:Array jU}{rest:List jU}{o:jU}{a:Act}{Kk:Act->gY->Prop}{Q:Exit->Act->gY->Prop}{E:Prop}
theorem D6 (w:gY)(I:o.guard=none)(s x:kX)(ho:o.op=.call { callee:= .builtin .append,args:=#[s,x],argTypes:=#[27,27] })
  (A:Nat) (v:fV) (l:LI) (hs:a.eval s=v) (H:aW w A v l) (G:fV) (m:LI) (hx:a.eval x=G) (J:Ts w G m) (hl:l.length+m.length<=2000000) (F:A<=w.heap.size)
  (h:∀v' D,aW D A v' (l++m)->w.grownBy D v.ownBlock->wpList oO ops Q rest (a.put o.dst v') D):wpList oO ops Q (o::rest) a w:=
 wpList_plain I fun _ L=>Jy (enc:=Br) qA mW (by omega) (by omega) rfl vC (fun p=>mV _ _) w s x ho A v l hs H G m hx (D9 J) hl F fun v' D h1 h2=>L _ _ (h v' D h1 h2)
theorem NV (w:gY)(I:o.guard=none)(s x:kX)(ho:o.op=.call { callee:= .builtin .append,args:=#[s,x],argTypes:=#[27,27] })
  (A:Nat) (v:fV) (l:LI) (hs:a.eval s=v) (H:aW w A v l) (G:fV) (m:LI) (hx:a.eval x=G) (J:Ts w G m) (hl:l.length+m.length<=2000000) (D:A<=w.heap.size)
  (h:∀v' F,aW F A v' (l++m)->w.grownBy F v.ownBlock->Kk (a.put o.dst v') F):if Region.wanted o (yielded ops a.tmps)=true then jU.wp oO o a w Kk Q else E:=by
 rw[if_pos (by simp[Region.wanted,I])];exact Jy (enc:=Br) qA mW (by omega) (by omega) rfl vC (fun p=>mV _ _) w s x ho A v l hs H G m hx (D9 J) hl D h
end
attribute [local go_sem ↓] Go.wp_at_zero Go.wp_at_succ
def dR (p:Nat->Prop)(w:gY):PT->fV->Prop
 | .n0 _ _,s=>∃a c,s=.slice a 0 c
 | .n1 _ _ x,s=>∃g c sx,s=.slice (some ⟨g,0,none⟩) 1 c/\p g/\w.cell? ⟨g,0,none⟩=some (.int .i64 x.k)/\w.cell? ⟨g,1,none⟩=some (.int .i64 x.n)/\w.cell? ⟨g,2,none⟩=some sx/\dR p w x sx
 | .n2 _ _ x y,s=>∃g c sx sy,s=.slice (some ⟨g,0,none⟩) 2 c/\p g/\w.cell? ⟨g,0,none⟩=some (.int .i64 x.k)/\w.cell? ⟨g,1,none⟩=some (.int .i64 x.n)/\w.cell? ⟨g,2,none⟩=some sx/\w.cell? ⟨g,3,none⟩=some (.int .i64 y.k)/\w.cell? ⟨g,4,none⟩=some (.int .i64 y.n)/\w.cell? ⟨g,5,none⟩=some sy/\dR p w x sx/\dR p w y sy
theorem dR.sl {t:PT}(h:dR p w t s):∃a c,s=.slice a t.len c:=by
 cases t with
 | n0 k n=>obtain⟨a,c,rfl⟩:=h;exact⟨_,_,rfl⟩
 | n1 k n x=>obtain⟨g,c,sx,rfl,_⟩:=h;exact⟨_,_,rfl⟩
 | n2 k n x y=>obtain⟨g,c,sx,sy,rfl,_⟩:=h;exact⟨_,_,rfl⟩
theorem dR.move {p q:Nat->Prop}{w D:gY}(H:∀g,p g->g<w.heap.size->q g/\D.heap[g]?=w.heap[g]?):∀{t:PT}{s:fV},dR p w t s->dR q D t s
 | .n0 _ _,_,h=>h
 | .n1 _ _ _,_,⟨g,c,sx,e,hp,h1,h2,h3,h4⟩=>
  have A:=H g hp (lC h1)
  ⟨g,c,sx,e,A.1,eA A.2 h1,eA A.2 h2,eA A.2 h3,dR.move H h4⟩
 | .n2 _ _ _ _,_,⟨g,c,sx,sy,e,hp,h1,h2,h3,h4,h5,h6,h7,h8⟩=>
  have A:=H g hp (lC h1)
  ⟨g,c,sx,sy,e,A.1,eA A.2 h1,eA A.2 h2,eA A.2 h3,eA A.2 h4,eA A.2 h5,eA A.2 h6,dR.move H h7,dR.move H h8⟩
theorem dR.kd {p:Nat->Prop}{B:Nat}{w:gY}(H:∀g,p g->B<=g):∀{t:PT}{s:fV},dR p w t s->cZ B w t s
 | .n0 _ _,_,h=>h
 | .n1 _ _ _,_,⟨g,c,sx,e,hp,h1,h2,h3,h4⟩=>⟨g,0,c,sx,e,H g hp,h1,h2,h3,dR.kd H h4⟩
 | .n2 _ _ _ _,_,⟨g,c,sx,sy,e,hp,h1,h2,h3,h4,h5,h6,h7,h8⟩=>⟨g,0,c,sx,sy,e,H g hp,h1,h2,h3,h4,h5,h6,dR.kd H h7,dR.kd H h8⟩
theorem JU {q:Nat->Prop}{t:PT}{sl:fV}{ps:List (Int×Int×fV)}(ho:mA w B sl ps)(hl:ps.length=t.len)
  (G:∀j k n s,ps[j]?=some (k,n,s)->k=(t.ab j).k/\n=(t.ab j).n/\dR p w (t.ab j) s) (hq:∀g,B<=g->q g) (M:∀g,p g->q g):dR q w t sl:=by
 have hm:∀{x:PT}{s:fV},dR p w x s->dR q w x s:=dR.move fun g h _=>⟨M g h,rfl⟩
 rcases gE ho yN with⟨rfl,h0⟩|⟨g,D,c,e,-⟩
 ·subst h0;cases t with
  | n0 k n=>exact⟨_,_,rfl⟩
  | n1 k n x=>simp[PT.len]at hl
  | n2 k n x y=>simp[PT.len]at hl
 ·subst e;cases t with
  | n0 k n=>rw[hl];exact⟨_,_,rfl⟩
  | n1 k n x=>
   match ps,hl with
   | [(a,b,s)],_=>
    obtain⟨J,I,F⟩:=G 0 a b s rfl;obtain⟨H,A,c1,c2⟩:=mA.at ho (i:=0) rfl;refine⟨g,D,s,rfl,hq g H,?_,?_,by simpa using c2,hm F⟩
    ·rw[J]at A;simpa[PT.ab]using A
    ·rw[I]at c1;simpa[PT.ab]using c1
  | n2 k n x y=>
   match ps,hl with
   | [(a,b,s),(a',b',s')],_=>
    obtain⟨J,I,F⟩:=G 0 a b s rfl;obtain⟨R,O,L⟩:=G 1 a' b' s' rfl;obtain⟨H,A,c1,c2⟩:=mA.at ho (i:=0) rfl;obtain⟨_,N,d1,d2⟩:=mA.at ho (i:=1) rfl;refine⟨g,D,s,s',rfl,hq g H,?_,?_,by simpa using c2,?_,?_,by simpa using d2,hm F,hm L⟩
    ·rw[J]at A;simpa[PT.ab]using A
    ·rw[I]at c1;simpa[PT.ab]using c1
    ·rw[R]at N;simpa[PT.ab]using N
    ·rw[O]at d1;simpa[PT.ab]using d1
def oQ (t:PT)(w:gY)(e:Ending)(w':gY):Prop:=∃(a:Option lI)(c:Nat),e=.returned (pl t.k t.n (.slice a t.len c))/\dR (fun g=>w.heap.size<=g) w' t (.slice a t.len c)/\lY w.heap.size w w'
structure Dt (t:PT)(w:gY)(s:fV)(b3 k:Nat)(wr:gY):Prop where
 le:k<=t.len
 ps:∃sl ps,ps.length=k/\Bk wr b3 #[.int .i64 t.k,.int .i64 t.n,sl] 25/\mA wr (b3+1) sl ps/\(∀j a b x,ps[j]?=some (a,b,x)->a=(t.ab j).k/\b=(t.ab j).n/\dR (fun g=>b3<g/\sl.ownBlock≠some g) wr (t.ab j) x)
 arg:Bk wr w.heap.size #[.int .i64 t.k,.int .i64 t.n,s] 25
 res:Bk wr (w.heap.size+1) #[.int .i64 0,.int .i64 0,.slice none 0 0] 25
 ord:w.heap.size+1<b3
 bel:lY w.heap.size w wr
theorem Ch {t:PT}{b3 k:Nat}{wr M I:gY}{sl:fV}{ps:List (Int×Int×fV)}{b:Option lI}{m c g G:Nat}(x9:k<t.len)(N:ps.length=k)(R:Bk wr b3 #[.int .i64 t.k,.int .i64 t.n,sl] 25)(L:mA wr (b3+1) sl ps)
  (x0:∀j a b x,ps[j]?=some (a,b,x)->a=(t.ab j).k/\b=(t.ab j).n/\dR (fun g=>b3<g/\sl.ownBlock≠some g) wr (t.ab j) x) (U:Bk wr w.heap.size #[.int .i64 t.k,.int .i64 t.n,s] 25) (T:Bk wr (w.heap.size+1) #[.int .i64 0,.int .i64 0,.slice none 0 0] 25) (h9:w.heap.size+1<b3) (hb:lY w.heap.size w wr)
  (F:lY wr.heap.size wr M) (hk:dR (fun g=>wr.heap.size<=g) M (t.ab k) (.slice b m c)) (hn:mA I (b3+1) (.slice (some ⟨g,0,none⟩) (ps.length+1) G) (ps++[((t.ab k).k,(t.ab k).n,.slice b m c)])) (hg:M.grownBy I sl.ownBlock) (O:sl.ownBlock=some g\/g=M.heap.size):
  Dt t w s b3 (k+1) (I.setCell ⟨b3,2,none⟩ (.slice (some ⟨g,0,none⟩) (ps.length+1) G)):=by
 have D:∀q,sl.ownBlock=some q->b3+1<=q/\q<wr.heap.size:=fun q e=>⟨oB L q e,oT L q e⟩;have y0:=R.lt;have x8:=F.size;have hne:sl.ownBlock≠some b3:=fun e=>by have:=(D _ e).1;omega
 have A:∀x,x≠b3->(I.setCell ⟨b3,2,none⟩ (.slice (some ⟨g,0,none⟩) (ps.length+1) G)).heap[x]?=I.heap[x]?:=fun x hx=>fD _ _ _ _ (by show _≠_;first|exact hx|exact fun e=>hx e.symm)
 refine⟨by omega,⟨_,ps++[((t.ab k).k,(t.ab k).n,.slice b m c)],by simp[N],(n9 (R.keep F) hg hne).set 2 _,dF hn fun x e=>A x (by have:=oB hn x e;omega),?_⟩,?_,?_,h9,?_⟩
 ·intro j a b' x H
  rcases Nat.lt_or_ge j k with h|h
  ·rw[List.getElem?_append_left (by omega)]at H;obtain⟨e,e',ok⟩:=x0 j a b' x H;refine⟨e,e',ok.move fun q hq J=>?_⟩;have S:(sI (some ⟨g,0,none⟩) (ps.length+1) G).ownBlock≠some q:=by
    intro Y;have W:g=q:=by simpa[sH]using Y
    subst W
    rcases O with h1|h1
    ·exact hq.2 h1
    ·omega
   refine⟨⟨hq.1,S⟩,?_⟩;rw[A q (by omega),hg.block q (by omega) (fun e=>hq.2 e.symm)];exact F.block q J
  ·have x2:j=k:=by
    have:=(mF.1 H).1;simp at this;omega
   subst x2;rw[List.getElem?_append_right (by omega),N,Nat.sub_self]at H;simp only[List.getElem?_cons_zero,Option.some.injEq,Prod.mk.injEq]at H;obtain⟨rfl,rfl,rfl⟩:=H;refine⟨rfl,rfl,hk.move fun q hq J=>?_⟩;have S:(sI (some ⟨g,0,none⟩) (ps.length+1) G).ownBlock≠some q:=by
    intro Y;have W:g=q:=by simpa[sH]using Y
    subst W
    rcases O with h1|h1
    ·have:=(D _ h1).2;omega
    ·omega
   refine⟨⟨by omega,S⟩,?_⟩;rw[A q (by omega)];exact hg.block q J (fun e=>by have:=(D _ e.symm).2;omega)
 ·have Z:=n9 (U.keep F) hg (fun e=>by have:=(D _ e).1;omega);unfold Bk;rw[A _ (by omega)];exact Z
 ·have Z:=n9 (T.keep F) hg (fun e=>by have:=(D _ e).1;omega);unfold Bk;rw[A _ (by omega)];exact Z
 ·exact ((aH hb F).grown hg (by have:=hb.size;omega) (fun x e=>by have:=(D _ e).1;omega)).setCell (by show _<=b3;omega) _
section
variable {ops:Array jU}{o:jU}{a:Act}{Kk:Act->gY->Prop}{Q:Exit->Act->gY->Prop}{Ee:Prop}
theorem Fj (w:gY)(N:o.guard=none)(s x:kX)(ho:o.op=.call { callee:= .builtin .append,args:=#[s,x],argTypes:=#[23,23] })
  (A:Nat) (v:fV) (l:List (Int×Int×fV)) (hs:a.eval s=v) (H:mA w A v l) (I:Nat) (k n:Int) (ad:Option lI) (i c:Nat) (hx:a.eval x=.slice (some ⟨I,0,none⟩) 1 1)
  (O:Bk w I #[.int .i64 k,.int .i64 n,.slice ad i c] 25) (hl:l.length<=2000000) (G:A<=w.heap.size)
  (h:∀g F D,mA D A (.slice (some ⟨g,0,none⟩) (l.length+1) F) (l++[(k,n,.slice ad i c)])->w.grownBy D v.ownBlock->(v.ownBlock=some g\/g=w.heap.size)->g<D.heap.size->Kk (a.put o.dst (.slice (some ⟨g,0,none⟩) (l.length+1) F)) D):
  if Region.wanted o (yielded ops a.tmps)=true then jU.wp oO o a w Kk Q else Ee:=by
 obtain⟨i0,hi,M,L,J⟩:=kR Na;refine step_append_lies w N s x 23 ho A 25 i0 _ 3 40 Tryz.underlying23 hi M L J rfl (by decide) v l.length (l.flatMap Ih) hs H ⟨I,0,none⟩ 1 1 (Ih (k,n,.slice ad i c)) hx rfl (pO O) (N5 _ _ _ _ _) (by omega) (by unfold maxLen;omega) (by omega) G w.heap.size rfl ?_;intro g F D h1 h2 h3 h4;refine h g F D ?_ h2 h3 h4
 show D.ownsRow _ _ _ _ _ _
 rw[oJ];simpa using h1
end
theorem qD {t:PT}(hs:cZ B w t s)
  (S:∀i,i<t.len->∀(W:gY)(s':fV),cZ B W (t.ab i) s'->gZ oO 105 #[pl (t.ab i).k (t.ab i).n s'] W (oQ (t.ab i) W)):
  gZ oO 105 #[pl t.k t.n s] w (oQ t w):=by
 have HR:=(show Hid _ from S);have b0:=(show Hid (cZ B w t s) from hs);obtain⟨a,c,rfl⟩:=hs.sl;have f5:=PT.bp t;have H:Bk (((w.alloc (.cells #[.int .i64 t.k,.int .i64 t.n,.slice a t.len c] 25)).alloc (.cells #[.int .i64 0,.int .i64 0,.slice none 0 0] 25)).alloc (.cells #[.int .i64 t.k,.int .i64 t.n,.slice none 0 0] 25)) w.heap.size #[.int .i64 t.k,.int .i64 t.n,.slice a t.len c] 25:=((Bk.new _ _ rfl).alloc _).alloc _;have G:Bk (((w.alloc (.cells #[.int .i64 t.k,.int .i64 t.n,.slice a t.len c] 25)).alloc (.cells #[.int .i64 0,.int .i64 0,.slice none 0 0] 25)).alloc (.cells #[.int .i64 t.k,.int .i64 t.n,.slice none 0 0] 25)) (w.heap.size+1) #[.int .i64 0,.int .i64 0,.slice none 0 0] 25:=(Bk.new _ _ (by simp)).alloc _;have bN:Bk (((w.alloc (.cells #[.int .i64 t.k,.int .i64 t.n,.slice a t.len c] 25)).alloc (.cells #[.int .i64 0,.int .i64 0,.slice none 0 0] 25)).alloc (.cells #[.int .i64 t.k,.int .i64 t.n,.slice none 0 0] 25)) (w.heap.size+2) #[.int .i64 t.k,.int .i64 t.n,.slice none 0 0] 25:=Bk.new _ _ (by simp);have y9:lY w.heap.size w (((w.alloc (.cells #[.int .i64 t.k,.int .i64 t.n,.slice a t.len c] 25)).alloc (.cells #[.int .i64 0,.int .i64 0,.slice none 0 0] 25)).alloc (.cells #[.int .i64 t.k,.int .i64 t.n,.slice none 0 0] 25)):=aG (aG (aG (fH _ _) _) _) _;have z7:Bk ((w.alloc (.cells #[.int .i64 t.k,.int .i64 t.n,.slice a t.len c] 25)).alloc (.cells #[.int .i64 0,.int .i64 0,.slice none 0 0] 25)) w.heap.size #[.int .i64 t.k,.int .i64 t.n,.slice a t.len c] 25:=(Bk.new _ _ rfl).alloc _;obtain⟨v0,v1,v2⟩:=z7.aK;obtain⟨x0,x1,x2⟩:=H.aK;clear hs S z7;go_enter Tryz.func105,Tryz.ntmps105;go_wp2_with fail;clear v0 v1 v2 x0 x1 x2;generalize (((w.alloc (.cells #[.int .i64 t.k,.int .i64 t.n,.slice a t.len c] 25)).alloc (.cells #[.int .i64 0,.int .i64 0,.slice none 0 0] 25)).alloc (.cells #[.int .i64 t.k,.int .i64 t.n,.slice none 0 0] 25))=W0 at*
 go_loopw [14] (fun i wr=>∃k:Nat,i=.int .i64 k/\Dt t w (.slice a t.len c) (w.heap.size+2) k wr) (fun i _=>t.len-(intOf i).toNat)
 case atStart=>exact⟨0,rfl,sE _,⟨_,[],rfl,bN,oN _ _ _ _ _,fun j a b x h=>by simp at h⟩,H,G,by omega,y9⟩
 case round=>
  clear H G bN y9;obtain⟨k,rfl,HI⟩:=hrel;obtain⟨f6,⟨sl,ps,T,D,U,y6⟩,H,G,h9,hb⟩:=HI;have HP:=(show Hid _ from y6);have HO:=(show Hid (mA wr (w.heap.size+2+1) sl ps) from U);clear U y6
  by_cases A:k<t.len
  ·have ik:((k:Int)<(t.len:Int)):=by omega
   obtain⟨g,off,sx,rfl,f7,c0,c1,c2,x3,b2,m2,d2,rfl⟩:=(b0.out.keep hb).at A;obtain⟨z8,y3,z6,a3⟩:∃a n c,sl=.slice a n c:=by
    rcases gE HO.out yN with⟨h1,_⟩|⟨g1,e6,f8,h1,_⟩
    ·exact⟨_,_,_,h1⟩
    ·exact⟨_,_,_,h1⟩
   subst a3;have HW:Hid (∀V,lY wr.heap.size wr V->V.cell? ⟨w.heap.size+2,2,none⟩=some (.slice z8 y3 z6)):=fun V hV=>(D.keep hV).aK.2.2;have y7:lY wr.heap.size wr (wr.alloc (.cells #[.int .i64 (t.ab k).k,.int .i64 (t.ab k).n,.slice b2 m2 d2] 25)):=aG (fH _ _) _;have hd:lY wr.heap.size wr (wr.alloc (.cells #[.int .i64 (t.ab k).k,.int .i64 (t.ab k).n,.slice b2 m2 d2] 25)).drew:=y7.drew;have HK:=(show Hid _ from fun (V:gY) (hV:lY wr.heap.size wr V)=>HR.out k A V _ (x3.keep hV));have HB:=(show Hid (Bk wr (w.heap.size+2) #[.int .i64 t.k,.int .i64 t.n,.slice z8 y3 z6] 25) from D);have b7:=(show Hid _ from H);have b1:=(show Hid _ from G);have w8:w.heap.size+2+1<=wr.heap.size:=by have:=D.lt;omega
   obtain⟨p0,p1,p2⟩:=D.aK;have bx:=Bk.new (w:=wr) #[.int .i64 (t.ab k).k,.int .i64 (t.ab k).n,.slice b2 m2 d2] 25 rfl;obtain⟨z0,z1,z2⟩:=bx.aK;obtain⟨z3,z4,z5⟩:=bx.drew.aK;have g4:=(show Hid _ from bx);clear bx;clear x3 H G D;go_wp2_with fail;clear c0 c1 c2;have i1:=HW.out _ y7;have i2:=HW.out _ hd
   go_region_law (first
    | (go_simp;go_at_call 105;refine gZ.mono (HK.out _ hd) ?_;rintro e I ⟨a7,c7,rfl,y4,y8⟩;have x5:lY wr.heap.size wr I:=aH hd y8;have F:lY wr.heap.size wr (I.alloc (.cells #[.int .i64 (t.ab k).k,.int .i64 (t.ab k).n,.slice a7 (t.ab k).len c7] 25)):=aG x5 _;obtain⟨q0,N,M⟩:=(HB.out.keep x5).aK;obtain⟨r0,r1,r2⟩:=(HB.out.keep F).aK;have bn:Bk (I.alloc (.cells #[.int .i64 (t.ab k).k,.int .i64 (t.ab k).n,.slice a7 (t.ab k).len c7] 25)) I.heap.size #[.int .i64 (t.ab k).k,.int .i64 (t.ab k).n,.slice a7 (t.ab k).len c7] 25:=Bk.new _ _ rfl;have Z:=bJ HO.out F;have y5:=rN w8 F.size)
    | (refine Fj _ rfl _ _ rfl (w.heap.size+2+1) _ ps rfl Z _ _ _ _ _ _ rfl bn (by omega) y5 ?_;intro g9 v4 w9 O x4 Y a1;have L:=n9 (HB.out.keep F) x4 (fun e=>by have:=oB Z _ e;omega);obtain⟨y0,y1,y2⟩:=L.aK;have f2:=L.free 2))
   all_goals
    have HN:Hid (Dt t w (.slice (some ⟨g,off,none⟩) t.len c) (w.heap.size+2) (k+1) (w9.setCell ⟨w.heap.size+2,2,none⟩ (.slice (some ⟨g9,0,none⟩) (ps.length+1) v4))):=Ch A T HB.out HO.out HP.out b7.out b1.out h9 hb F (y4.move fun q hq a0=>⟨rN hd.size hq,(aG (fH I.heap.size I) _).block q a0⟩) O x4 Y;have b4:Hid (k<t.len):=A;clear O x4 Y a1 L y0 y1 y2 f2 y4 y8 x5 F q0 N M r0 r1 r2 bn Z y5 p0 p1 p2 A;go_wp2_with fail;go_roundw
    case rel=>
     have h:=HN.out;rw[T]at h;exact⟨k+1,by go_num,h⟩
    case measure=>have:=b4.out;simp[intOf];omega
  ·obtain rfl:k=t.len:=by omega
   have ik:¬((t.len:Int)<(t.len:Int)):=by omega
   obtain⟨p0,p1,p2⟩:=D.aK;obtain⟨g3,g2,g0⟩:=H.aK;have kp:dR (fun g=>w.heap.size+2<g) wr t sl:=JU HO.out T HP.out (fun g h=>h) (fun g h=>h.1);obtain⟨J,c5,e5⟩:=kp.sl;subst e5;have f0:=G.free 0;have N:=G.set 0 (.int .i64 t.k);have f1:=N.free 1;have M:=N.set 1 (.int .i64 t.n);have f2:=M.free 2;have q3:Bk (((wr.setCell ⟨w.heap.size+1,0,none⟩ (.int .i64 t.k)).setCell ⟨w.heap.size+1,1,none⟩ (.int .i64 t.n)).setCell ⟨w.heap.size+1,2,none⟩ (.slice J t.len c5)) (w.heap.size+1) #[.int .i64 t.k,.int .i64 t.n,.slice J t.len c5] 25:=M.set 2 _;obtain⟨y0,y1,y2⟩:=q3.aK;obtain⟨r0,r1,r2⟩:=G.aK;have R:∀x,x≠w.heap.size+1->(((wr.setCell ⟨w.heap.size+1,0,none⟩ (.int .i64 t.k)).setCell ⟨w.heap.size+1,1,none⟩ (.int .i64 t.n)).setCell ⟨w.heap.size+1,2,none⟩ (.slice J t.len c5)).heap[x]?=wr.heap[x]?:=fun x hx=>((fD _ _ _ _ hx).trans (fD _ _ _ _ hx)).trans (fD _ _ _ _ hx);have b5:=(show Hid _ from kp.move (q:=fun g=>w.heap.size<=g) fun x hx _=>⟨by omega,R x (by omega)⟩);have b6:Hid (lY w.heap.size w (((wr.setCell ⟨w.heap.size+1,0,none⟩ (.int .i64 t.k)).setCell ⟨w.heap.size+1,1,none⟩ (.int .i64 t.n)).setCell ⟨w.heap.size+1,2,none⟩ (.slice J t.len c5))):=((hb.setCell (by simp) _).setCell (by simp) _).setCell (by simp) _;clear kp N M q3 R HO HP D H G hb;go_wp2_with fail;refine iC (v:=pl t.k t.n (.slice J t.len c5)) (by simp[results,Tryz.results105,go_sem,y0,y1,y2];try rfl) rfl ?_;exact⟨J,c5,rfl,b5.out,b6.out⟩
theorem nR:∀(t:PT){B:Nat}{s:fV}{w:gY},cZ B w t s->gZ oO 105 #[pl t.k t.n s] w (oQ t w)
 | .n0 _ _,_,_,_,hs=>qD hs fun i hi=>by simp[PT.len]at hi
 | .n1 _ _ x,_,_,_,hs=>qD hs fun i _ W s' h=>nR x h
 | .n2 _ _ x y,_,_,_,hs=>qD hs fun i _ W s' h=>by
  cases i with
  | zero=>exact nR x h
  | succ i=>exact nR y h
theorem rT {t:PT}(hs:cZ B w t s)
  (U:∀i,i<t.len->∀(W:gY)(s':fV),cZ B W (t.ab i) s'->gZ oO 103 #[pl (t.ab i).k (t.ab i).n s'] W (oQ (t.ab i) W)):
  gZ oO 103 #[pl t.k t.n s] w (oQ t w):=by
 have HR:=(show Hid _ from U);have a2:=(show Hid (cZ B w t s) from hs);obtain⟨a,c,rfl⟩:=hs.sl;have e9:=PT.bp t;have G:Bk (((w.alloc (.cells #[.int .i64 t.k,.int .i64 t.n,.slice a t.len c] 25)).alloc (.cells #[.int .i64 0,.int .i64 0,.slice none 0 0] 25)).alloc (.cells #[.int .i64 t.k,.int .i64 t.n,.slice none 0 0] 25)) w.heap.size #[.int .i64 t.k,.int .i64 t.n,.slice a t.len c] 25:=((Bk.new _ _ rfl).alloc _).alloc _;have H:Bk (((w.alloc (.cells #[.int .i64 t.k,.int .i64 t.n,.slice a t.len c] 25)).alloc (.cells #[.int .i64 0,.int .i64 0,.slice none 0 0] 25)).alloc (.cells #[.int .i64 t.k,.int .i64 t.n,.slice none 0 0] 25)) (w.heap.size+1) #[.int .i64 0,.int .i64 0,.slice none 0 0] 25:=(Bk.new _ _ (by simp)).alloc _;have bN:Bk (((w.alloc (.cells #[.int .i64 t.k,.int .i64 t.n,.slice a t.len c] 25)).alloc (.cells #[.int .i64 0,.int .i64 0,.slice none 0 0] 25)).alloc (.cells #[.int .i64 t.k,.int .i64 t.n,.slice none 0 0] 25)) (w.heap.size+2) #[.int .i64 t.k,.int .i64 t.n,.slice none 0 0] 25:=Bk.new _ _ (by simp);have y9:lY w.heap.size w (((w.alloc (.cells #[.int .i64 t.k,.int .i64 t.n,.slice a t.len c] 25)).alloc (.cells #[.int .i64 0,.int .i64 0,.slice none 0 0] 25)).alloc (.cells #[.int .i64 t.k,.int .i64 t.n,.slice none 0 0] 25)):=aG (aG (aG (fH _ _) _) _) _;have z4:Bk ((w.alloc (.cells #[.int .i64 t.k,.int .i64 t.n,.slice a t.len c] 25)).alloc (.cells #[.int .i64 0,.int .i64 0,.slice none 0 0] 25)) w.heap.size #[.int .i64 t.k,.int .i64 t.n,.slice a t.len c] 25:=(Bk.new _ _ rfl).alloc _;obtain⟨v0,v1,v2⟩:=z4.aK;obtain⟨x0,x1,x2⟩:=G.aK;clear hs U z4;go_enter Tryz.func103,Tryz.ntmps103;go_wp2_with fail;clear v0 v1 v2 x0 x1 x2;generalize (((w.alloc (.cells #[.int .i64 t.k,.int .i64 t.n,.slice a t.len c] 25)).alloc (.cells #[.int .i64 0,.int .i64 0,.slice none 0 0] 25)).alloc (.cells #[.int .i64 t.k,.int .i64 t.n,.slice none 0 0] 25))=W0 at*
 go_loopw [4] (fun i wr=>∃k:Nat,i=.int .i64 k/\Dt t w (.slice a t.len c) (w.heap.size+2) k wr) (fun i _=>t.len-(intOf i).toNat)
 case atStart=>exact⟨0,rfl,sE _,⟨_,[],rfl,bN,oN _ _ _ _ _,fun j a b x h=>by simp at h⟩,G,H,by omega,y9⟩
 case round=>
  clear G H bN y9;obtain⟨k,rfl,HI⟩:=hrel;obtain⟨f3,⟨sl,ps,Y,F,Z,y7⟩,G,H,h9,hb⟩:=HI;have HP:=(show Hid _ from y7);have HO:=(show Hid (mA wr (w.heap.size+2+1) sl ps) from Z);clear Z y7
  by_cases A:k<t.len
  ·have ik:((k:Int)<(t.len:Int)):=by omega
   obtain⟨g,off,sx,rfl,f4,c0,c1,c2,x5,b2,m2,d2,rfl⟩:=(a2.out.keep hb).at A;obtain⟨z5,y4,z3,w6⟩:∃a n c,sl=.slice a n c:=by
    rcases gE HO.out yN with⟨h1,_⟩|⟨g1,e1,f5,h1,_⟩
    ·exact⟨_,_,_,h1⟩
    ·exact⟨_,_,_,h1⟩
   subst w6;have HW:Hid (∀V,lY wr.heap.size wr V->V.cell? ⟨w.heap.size+2,2,none⟩=some (.slice z5 y4 z3)/\V.cell? ⟨w.heap.size,2,none⟩=some (.slice (some ⟨g,off,none⟩) t.len c)/\V.cell? ⟨g,off+k*3,none⟩=some (.int .i64 (t.ab k).k)/\V.cell? ⟨g,off+k*3+1,none⟩=some (.int .i64 (t.ab k).n)/\V.cell? ⟨g,off+k*3+2,none⟩=some (.slice b2 m2 d2)):=fun V I=>⟨(F.keep I).aK.2.2,(G.keep I).aK.2.2,cB I c0,cB I c1,cB I c2⟩;have w4:lY wr.heap.size wr wr:=fH _ _;have hd:lY wr.heap.size wr wr.drew:=w4.drew;have HK:=(show Hid _ from fun (V:gY) (I:lY wr.heap.size wr V)=>HR.out k A V _ (x5.keep I));have HB:=(show Hid (Bk wr (w.heap.size+2) #[.int .i64 t.k,.int .i64 t.n,.slice z5 y4 z3] 25) from F);have b0:=(show Hid _ from G);have a3:=(show Hid _ from H);have v9:w.heap.size+2+1<=wr.heap.size:=by have:=F.lt;omega
   obtain⟨p0,p1,p2⟩:=F.aK;obtain⟨z0,z1,z2⟩:=G.aK;clear x5 G H F;go_wp2_with fail;clear c0 c1 c2;obtain⟨i1,i2,i3,i4,i5⟩:=HW.out _ (fH _ _);obtain⟨j1,j2,j3,j4,j5⟩:=HW.out _ hd
   go_region_law (first
    | (go_simp;go_at_call 103;refine gZ.mono (HK.out _ hd) ?_;rintro e L ⟨a7,c7,rfl,y5,y8⟩;have J:lY wr.heap.size wr L:=aH hd y8;have D:lY wr.heap.size wr (L.alloc (.cells #[.int .i64 (t.ab k).k,.int .i64 (t.ab k).n,.slice a7 (t.ab k).len c7] 25)):=aG J _;obtain⟨q0,R,O⟩:=(HB.out.keep J).aK;obtain⟨r0,r1,r2⟩:=(HB.out.keep D).aK;have bn:Bk (L.alloc (.cells #[.int .i64 (t.ab k).k,.int .i64 (t.ab k).n,.slice a7 (t.ab k).len c7] 25)) L.heap.size #[.int .i64 (t.ab k).k,.int .i64 (t.ab k).n,.slice a7 (t.ab k).len c7] 25:=Bk.new _ _ rfl;have x4:=bJ HO.out D;have y6:=rN v9 D.size;obtain⟨l1,l2,l3,l4,l5⟩:=HW.out _ J;obtain⟨m1,e8,m3,m4,m5⟩:=HW.out _ D)
    | (refine Fj _ rfl _ _ rfl (w.heap.size+2+1) _ ps rfl x4 _ _ _ _ _ _ rfl bn (by omega) y6 ?_;intro g9 z9 w9 S x6 x3 w3;have N:=n9 (HB.out.keep D) x6 (fun e=>by have:=oB x4 _ e;omega);obtain⟨y0,y1,y2⟩:=N.aK;have f2:=N.free 2))
   all_goals
    have HN:Hid (Dt t w (.slice (some ⟨g,off,none⟩) t.len c) (w.heap.size+2) (k+1) (w9.setCell ⟨w.heap.size+2,2,none⟩ (.slice (some ⟨g9,0,none⟩) (ps.length+1) z9))):=Ch A Y HB.out HO.out HP.out b0.out a3.out h9 hb D (y5.move fun q hq w2=>⟨rN hd.size hq,(aG (fH L.heap.size L) _).block q w2⟩) S x6 x3;have a4:Hid (k<t.len):=A;clear S x6 x3 w3 N y0 y1 y2 f2 y5 y8 J D q0 R O r0 r1 r2 bn x4 y6 p0 p1 p2 A;go_wp2_with fail;go_roundw
    case rel=>
     have h:=HN.out;rw[Y]at h;exact⟨k+1,by go_num,h⟩
    case measure=>have:=a4.out;simp[intOf];omega
  ·obtain rfl:k=t.len:=by omega
   have ik:¬((t.len:Int)<(t.len:Int)):=by omega
   obtain⟨p0,p1,p2⟩:=F.aK;obtain⟨f8,f7,f6⟩:=G.aK;have kp:dR (fun g=>w.heap.size+2<g) wr t sl:=JU HO.out Y HP.out (fun g h=>h) (fun g h=>h.1);obtain⟨M,c5,e5⟩:=kp.sl;subst e5;have f0:=H.free 0;have R:=H.set 0 (.int .i64 t.k);have f1:=R.free 1;have O:=R.set 1 (.int .i64 t.n);have f2:=O.free 2;have q3:Bk (((wr.setCell ⟨w.heap.size+1,0,none⟩ (.int .i64 t.k)).setCell ⟨w.heap.size+1,1,none⟩ (.int .i64 t.n)).setCell ⟨w.heap.size+1,2,none⟩ (.slice M t.len c5)) (w.heap.size+1) #[.int .i64 t.k,.int .i64 t.n,.slice M t.len c5] 25:=O.set 2 _;obtain⟨y0,y1,y2⟩:=q3.aK;obtain⟨r0,r1,r2⟩:=H.aK;have T:∀x,x≠w.heap.size+1->(((wr.setCell ⟨w.heap.size+1,0,none⟩ (.int .i64 t.k)).setCell ⟨w.heap.size+1,1,none⟩ (.int .i64 t.n)).setCell ⟨w.heap.size+1,2,none⟩ (.slice M t.len c5)).heap[x]?=wr.heap[x]?:=fun x hx=>((fD _ _ _ _ hx).trans (fD _ _ _ _ hx)).trans (fD _ _ _ _ hx);have a6:=(show Hid _ from kp.move (q:=fun g=>w.heap.size<=g) fun x hx _=>⟨by omega,T x (by omega)⟩);have a8:Hid (lY w.heap.size w (((wr.setCell ⟨w.heap.size+1,0,none⟩ (.int .i64 t.k)).setCell ⟨w.heap.size+1,1,none⟩ (.int .i64 t.n)).setCell ⟨w.heap.size+1,2,none⟩ (.slice M t.len c5))):=((hb.setCell (by simp) _).setCell (by simp) _).setCell (by simp) _;clear kp R O q3 T HO HP F G H hb;go_wp2_with fail;refine iC (v:=pl t.k t.n (.slice M t.len c5)) (by simp[results,Tryz.results103,go_sem,y0,y1,y2];try rfl) rfl ?_;exact⟨M,c5,rfl,a6.out,a8.out⟩
theorem mN:∀(t:PT){B:Nat}{s:fV}{w:gY},cZ B w t s->gZ oO 103 #[pl t.k t.n s] w (oQ t w)
 | .n0 _ _,_,_,_,hs=>rT hs fun i hi=>by simp[PT.len]at hi
 | .n1 _ _ x,_,_,_,hs=>rT hs fun i _ W s' h=>mN x h
 | .n2 _ _ x y,_,_,_,hs=>rT hs fun i _ W s' h=>by
  cases i with
  | zero=>exact mN x h
  | succ i=>exact mN y h
attribute [local go_sem ↓] Go.wp_at_zero Go.wp_at_succ
structure lR (w:gY)(B:Nat)(sp si sf sd:fV)(s:SS):Prop where
 kd:dR (fun g=>B<=g/\si.ownBlock≠some g) w s.t sp
 ly:∃vs,dN w B si vs/\gC w B vs s.K
 ts:aW w B sf s.f
 rs:aD w B sd s.d
def Gl (s:SS):Prop:=s.K.length<=1000/\(∀l∈s.K,l.length<=1000)/\s.f.length<=1000/\s.d.length<=1000
theorem lR.ses {A D F G:fV}{s:SS}(h:lR w B A D F G s)(hf:Gl s):bY w A D F G s:=by
 obtain⟨vs,h1,h2⟩:=h.ly;obtain⟨L,J,I,H⟩:=hf;exact⟨h.kd.kd fun g _=>sE _,h2.ly h1 (by rw[h2.1];omega),aW.ts h.ts (by omega),aD.rs h.rs (by omega)⟩
theorem AC {s:SS}{r:List Rw}(h:dI s=some r):Gl s:=by
 obtain⟨h1,h2,h3⟩:=dS.1 h;obtain⟨a,b,e,-,ha,D,hr⟩:=oG h2;have I:=fP (j7 ha);have H:=fP (j7 D);have G:=fP (j7 (pY hr));have F:=lB h1;have A:=kD s.f r;rw[h3]at A;refine⟨by rw[e];simp,fun l hl=>?_,by omega,by omega⟩;rw[e]at hl;simp only[List.mem_cons,List.not_mem_nil,or_false]at hl
 rcases hl with rfl|rfl<;>omega
theorem gC.cD {K:List (List Rw)}(h:gC w B vs K)(A:Bk w b c 30):gC (w.setCell ⟨b,i,none⟩ v) B vs K:=
 ⟨h.1,fun j u l h1 h2=>by
  have ho:=h.2.1 j u l h1 h2;refine dF ho fun q e=>fD _ _ _ _ ?_;obtain⟨d,hd⟩:=gP ho e;exact bK hd A (by decide),h.2.2⟩
theorem dN.cD (h:dN w B u vs)(A:Bk w b c 30):dN (w.setCell ⟨b,i,none⟩ v) B u vs:=
 dF h fun q e=>fD _ _ _ _ (by
  obtain⟨d,hd⟩:=kF h e;exact bK hd A (by decide))
theorem mZ (h:aW w B v l){q:Nat}(e:v.ownBlock=some q):∃c:Array fV,Bk w q c 32:=by
 rcases kE h with⟨rfl,_⟩|⟨g,D,c,rfl,_,A,_⟩
 ·simp[sH]at e
 ·simp[sH]at e;subst e;exact⟨c,A⟩
theorem uP (h:aW w B u l)(A:Bk w b c 30):aW (w.setCell ⟨b,i,none⟩ v) B u l:=
 dF h fun q e=>fD _ _ _ _ (by
  obtain⟨d,hd⟩:=mZ h e;exact bK hd A (by decide))
theorem zQ {l:List Rw}(h:aD w B u l)(A:Bk w b c 30):aD (w.setCell ⟨b,i,none⟩ v) B u l:=
 dF h fun q e=>fD _ _ _ _ (by
  obtain⟨d,hd⟩:=gP h e;exact bK hd A (by decide))
theorem qJ (h:aW w B v l):∃a c,v=.slice a l.length c:=by
 rcases gE (enc:=Br) h vC with⟨rfl,rfl⟩|⟨g,A,c,rfl,_⟩
 ·exact⟨_,_,rfl⟩
 ·exact⟨_,_,rfl⟩
theorem dR.set {t:PT}(h:dR p w t s)(hp:∀g,p g->g≠b):dR p (w.setCell ⟨b,i,none⟩ v) t s:=
 h.move fun g hg _=>⟨hg,fD _ _ _ _ (hp g hg)⟩
theorem dR.keep {A:gY}{t:PT}(h:dR p w t s)(D:lY w.heap.size w A):dR p A t s:=
 h.move fun g hg hl=>⟨hg,D.block g hl⟩
theorem dR.aO {A:gY}{t:PT}{row:Option Nat}(h:dR p w t s)(hg:w.grownBy A row)(hr:∀g,p g->row≠some g):dR p A t s:=
 h.move fun g hp hl=>⟨hp,hg.block g hl fun e=>hr g hp e.symm⟩
structure Ea (s:SS)(w:gY)(arg:Array fV)(b M k:Nat)(kids F T:fV)(fL:LI)(dL:List Rw)(wr:gY):Prop where
 le:k<=s.K.length
 ps:∃lv vs,dN wr M lv vs/\gC wr M vs (s.K.take k)/\Bk wr b #[.int .i64 s.t.k,.int .i64 s.t.n,kids,lv,F,T] 30
 kd:dR (fun g=>w.heap.size+2<=g/\g<M/\g≠b) wr s.t kids
 ot:aW wr (w.heap.size+2) F fL
 orr:aD wr (w.heap.size+2) T dL
 arg:Bk wr w.heap.size arg 30
 res:Bk wr (w.heap.size+1) #[.int .i64 0,.int .i64 0,.slice none 0 0,.slice none 0 0,.slice none 0 0,.slice none 0 0] 30
 ord:w.heap.size+2<=b
 oM:b<M
 bel:lY w.heap.size w wr
theorem EB {s:SS}{h9:Array fV}{M k:Nat}{D F T N R:fV}{fL:LI}{dL:List Rw}{l:List Rw}{wr O L:gY}(Y:s.K[k]?=some l)(hl:l.length<=1000000)(J:dN wr M N vs)(x9:gC wr M vs (s.K.take k))(Z:Bk wr b #[.int .i64 s.t.k,.int .i64 s.t.n,D,N,F,T] 30)
  (x8:dR (fun g=>w.heap.size+2<=g/\g<M/\g≠b) wr s.t D) (x5:aW wr (w.heap.size+2) F fL) (x6:aD wr (w.heap.size+2) T dL) (U:Bk wr w.heap.size h9 30) (S:Bk wr (w.heap.size+1) #[.int .i64 0,.int .i64 0,.slice none 0 0,.slice none 0 0,.slice none 0 0,.slice none 0 0] 30) (x0:w.heap.size+2<=b) (x7:b<M) (hb:lY w.heap.size w wr) (hM:M<=wr.heap.size) (A:lY wr.heap.size wr O) (hu:aD O wr.heap.size u l)
  (hn:dN L M R (vs++[u])) (hg:O.grownBy L N.ownBlock):Ea s w h9 b M (k+1) D F T fL dL (L.setCell ⟨b,3,none⟩ R):=by
 have hne:∀{q b:Nat}{c:Array fV},N.ownBlock=some q->Bk wr b c 30->b≠q:=fun e y0=>by
  obtain⟨d,hd⟩:=kF J e;exact bK y0 hd (by decide)
 have H:∀x,x≠b->(L.setCell ⟨b,3,none⟩ R).heap[x]?=L.heap[x]?:=fun x hx=>fD _ _ _ _ hx;have I:dN O M N vs:=bJ J A;have y4:=A.size;have W:Bk L b #[.int .i64 s.t.k,.int .i64 s.t.n,D,N,F,T] 30:=(Z.keep A).aO hg fun q e=>hne e Z;refine⟨by have:=(mF.1 Y).1;omega,⟨R,vs++[u],dF hn fun q e=>H q (by have:=oB hn q e;omega),?_,W.set 3 R⟩,?_,?_,?_,?_,?_,x0,x7,?_⟩
 ·refine gC.cD ?_ W;rw[gL Y];exact ((x9.keep A).snoc (bQ hu hM) hl).aO I hg
 ·refine dR.set (dR.aO (x8.keep A) hg fun g hp e=>?_) fun g hp=>hp.2.2;have:=oB J g e;omega
 ·have G:aW O (w.heap.size+2) F fL:=bJ x5 A;refine uP (dF G fun q e=>hg.block q (oT G q e) fun e'=>?_) W;obtain⟨c,hc⟩:=mZ G e;obtain⟨d,hd⟩:=kF I e'.symm;exact bK hc hd (by decide) rfl
 ·have G:aD O (w.heap.size+2) T dL:=bJ x6 A;refine zQ (dF G fun q e=>hg.block q (oT G q e) fun e'=>?_) W;obtain⟨c,hc⟩:=gP G e;obtain⟨d,hd⟩:=kF I e'.symm;exact bK hc hd (by decide) rfl
 ·unfold Bk;rw[H _ (by omega)];exact (U.keep A).aO hg fun q e=>hne e U
 ·unfold Bk;rw[H _ (by omega)];exact (S.keep A).aO hg fun q e=>hne e S
 ·exact ((aH hb A).grown hg (by have:=hb.size;omega) (fun x e=>by have:=oB J x e;omega)).setCell (by show _<=b;omega) _
theorem EN {s:SS}{sp si sf sd:fV}(h:bY w sp si sf sd s)(p9:Gl s):
  gZ oO 82 #[sv s.t.k s.t.n sp si sf sd] w fun e w'=>∃j4 j5 k0 k1,e=.returned (sv s.t.k s.t.n j4 j5 k0 k1)/\lR w' w.heap.size j4 j5 k0 k1 s/\lY w.heap.size w w':=by
 have HS:=(show Hid (bY w sp si sf sd s) from h);obtain⟨Z,U,a1,c1,Y,c2,W,c3,rfl,rfl,rfl,rfl⟩:=h.sl;obtain⟨f1,f2,f3,f4⟩:=p9;have HW:=(show Hid (∀l∈s.K,l.length<=1000) from f2);have bA:Bk ((w.alloc (.cells (sc s.t.k s.t.n (.slice Z s.t.len U) (.slice a1 s.K.length c1) (.slice Y s.f.length c2) (.slice W s.d.length c3)) 30)).alloc (.cells #[.int .i64 0,.int .i64 0,.slice none 0 0,.slice none 0 0,.slice none 0 0,.slice none 0 0] 30)) w.heap.size (sc s.t.k s.t.n (.slice Z s.t.len U) (.slice a1 s.K.length c1) (.slice Y s.f.length c2) (.slice W s.d.length c3)) 30:=(Bk.new _ _ rfl).alloc _;have bR:Bk ((w.alloc (.cells (sc s.t.k s.t.n (.slice Z s.t.len U) (.slice a1 s.K.length c1) (.slice Y s.f.length c2) (.slice W s.d.length c3)) 30)).alloc (.cells #[.int .i64 0,.int .i64 0,.slice none 0 0,.slice none 0 0,.slice none 0 0,.slice none 0 0] 30)) (w.heap.size+1) #[.int .i64 0,.int .i64 0,.slice none 0 0,.slice none 0 0,.slice none 0 0,.slice none 0 0] 30:=Bk.new _ _ (by simp);have i1:lY w.heap.size w ((w.alloc (.cells (sc s.t.k s.t.n (.slice Z s.t.len U) (.slice a1 s.K.length c1) (.slice Y s.f.length c2) (.slice W s.d.length c3)) 30)).alloc (.cells #[.int .i64 0,.int .i64 0,.slice none 0 0,.slice none 0 0,.slice none 0 0,.slice none 0 0] 30)):=aG (aG (fH _ _) _) _;have k5:((w.alloc (.cells (sc s.t.k s.t.n (.slice Z s.t.len U) (.slice a1 s.K.length c1) (.slice Y s.f.length c2) (.slice W s.d.length c3)) 30)).alloc (.cells #[.int .i64 0,.int .i64 0,.slice none 0 0,.slice none 0 0,.slice none 0 0,.slice none 0 0] 30)).heap.size=w.heap.size+2:=by simp
 obtain⟨x0,x1,x2,x3,x4,x5⟩:=bA.aY;have l3:=(h.keep i1).kd;clear h f2;go_enter Tryz.func82,Tryz.ntmps82;go_wp2_with fail;generalize ((w.alloc (.cells (sc s.t.k s.t.n (.slice Z s.t.len U) (.slice a1 s.K.length c1) (.slice Y s.f.length c2) (.slice W s.d.length c3)) 30)).alloc (.cells #[.int .i64 0,.int .i64 0,.slice none 0 0,.slice none 0 0,.slice none 0 0,.slice none 0 0] 30))=W0 at*;refine (nR s.t l3).mono ?_;rintro e w1 ⟨ak,ck,rfl,kp,v3⟩;rw[k5]at kp;have i4:=bA.keep v3;have l6:=bR.keep v3;have i0:=aH i1 v3;have k4:w.heap.size+2<=w1.heap.size:=by have:=v3.size;omega
 clear x0 x1 x2 x3 x4 x5 bA bR i1 v3 l3 k5;have bN:Bk (w1.alloc (.cells #[.int .i64 s.t.k,.int .i64 s.t.n,.slice ak s.t.len ck,bM,bM,bM] 30)) w1.heap.size #[.int .i64 s.t.k,.int .i64 s.t.n,.slice ak s.t.len ck,bM,bM,bM] 30:=Bk.new _ _ rfl;have y9:lY w1.heap.size w1 (w1.alloc (.cells #[.int .i64 s.t.k,.int .i64 s.t.n,.slice ak s.t.len ck,bM,bM,bM] 30)):=aG (fH _ _) _;have m0:Hid (Ea s w (sc s.t.k s.t.n (.slice Z s.t.len U) (.slice a1 s.K.length c1) (.slice Y s.f.length c2) (.slice W s.d.length c3)) w1.heap.size (w1.heap.size+1) 0 (.slice ak s.t.len ck) bM bM [] [] (w1.alloc (.cells #[.int .i64 s.t.k,.int .i64 s.t.n,.slice ak s.t.len ck,bM,bM,bM] 30))):=
  ⟨sE _,⟨_,[],oN _ _ _ _ _,gC.nil _ _,bN⟩,kp.move fun g hg hl=>⟨⟨hg,by omega,by omega⟩,y9.block g hl⟩,oN _ _ _ _ _,oN _ _ _ _ _,i4.keep y9,l6.keep y9,k4,by omega,aH i0 y9⟩
 obtain⟨x0,x1,x2,x3,x4,x5⟩:=(i4.keep y9).aY;clear kp i4 l6 bN y9 i0 k4;go_wp2_with fail;clear x0 x1 x2 x3 x4 x5;generalize (w1.alloc (.cells #[.int .i64 s.t.k,.int .i64 s.t.n,.slice ak s.t.len ck,bM,bM,bM] 30))=W3 at*;generalize w1.heap.size=b3 at*;generalize i5:(sI ak s.t.len ck)=D at*;clear i5
 go_loopw [13] (fun i wr=>∃k:Nat,i=.int .i64 k/\Ea s w (sc s.t.k s.t.n (.slice Z s.t.len U) (.slice a1 s.K.length c1) (.slice Y s.f.length c2) (.slice W s.d.length c3)) b3 (b3+1) k D bM bM [] [] wr) (fun i _=>s.K.length-(intOf i).toNat)
 case atStart=>exact⟨0,rfl,m0.out⟩
 case round=>
  clear m0;obtain⟨k,rfl,hI⟩:=hrel;obtain⟨wR,⟨lv,vs,l1,g8,bB⟩,l2,t4,t5,bA,bR,o9,-,hb⟩:=hI;have HO:=(show Hid (dN wr (b3+1) lv vs) from l1);have HE:=(show Hid (gC wr (b3+1) vs (s.K.take k)) from g8);have z6:=(show Hid (dR (fun g=>w.heap.size+2<=g/\g<b3+1/\g≠b3) wr s.t D) from l2);have HV:Hid (vs.length=k):=by show _=_;rw[g8.1,List.length_take];omega
  have t3:=hb.size;have t9:=bB.lt;clear l1 g8 l2
  by_cases f6:k<s.K.length
  ·obtain⟨l,b4⟩:∃l,s.K[k]?=some l:=⟨_,mJ f6⟩;obtain⟨a',zF,e',-,-,-,b6⟩:=(HS.out.keep hb).ly.open;cases e';obtain⟨g,off,ad,cp,rfl,aE,aI,hR⟩:=b6 k l b4;have ik:((k:Int)<(s.K.length:Int)):=by omega
   have HL:=(show Hid (s.K[k]?=some l) from b4);have wP:l.length<=1000:=HW.out l (List.mem_of_getElem? b4);obtain⟨L,I,J,i2⟩:∃a n c,lv=.slice a n c:=by
    obtain⟨a,c,e,-⟩:=dN.vs HO.out (by have:=HV.out;omega);exact⟨a,_,c,e⟩
   subst i2;have hd:lY wr.heap.size wr wr.drew:=(fH _ _).drew;have OE:aD wr.drew wr.heap.size (.slice none 0 0) []:=oN _ _ _ _ _;have RE:Rs wr.drew (.slice ad l.length cp) l:=hR.keep hd;have HB:=(show Hid (Bk wr b3 #[.int .i64 s.t.k,.int .i64 s.t.n,D,.slice L I J,bM,bM] 30) from bB);have HA:=(show Hid (Bk wr w.heap.size (sc s.t.k s.t.n (.slice Z s.t.len U) (.slice (some ⟨g,off,none⟩) s.K.length c1) (.slice Y s.f.length c2) (.slice W s.d.length c3)) 30) from bA);have HR:=(show Hid (Bk wr (w.heap.size+1) #[.int .i64 0,.int .i64 0,.slice none 0 0,.slice none 0 0,.slice none 0 0,.slice none 0 0] 30) from bR);obtain⟨x0,x1,x2,x3,x4,x5⟩:=bB.aY;obtain⟨y0,y1,y2,y3,y4,y5⟩:=bB.drew.aY;have k3:b3+1<=wr.heap.size:=t9;clear b6 b4 hR bA bB bR;go_wp2_with fail
   go_region_law (first
    | (refine iU _ rfl _ _ rfl wr.heap.size _ [] rfl OE _ l rfl RE (by simp;omega) (by simp) ?_;intro v7 H O v2;obtain⟨A,c7,rfl⟩:∃a c,v7=.slice a l.length c:=(by obtain⟨a,c,e,_⟩:=Rs.open (aD.rs O (by simp;omega));exact⟨a,c,by simpa using e⟩);have R:aD H wr.heap.size (.slice A l.length c7) l:=O;have M:lY wr.heap.size wr H:=Below.aO hd v2 (by simp) (oB OE);have N:lY wr.heap.size wr (H.alloc (.cells #[.slice A l.length c7] 28)):=aG M _;have O8:dN (H.alloc (.cells #[.slice A l.length c7] 28)) (b3+1) (.slice L I J) vs:=bJ HO.out N;have B8:Bk (H.alloc (.cells #[.slice A l.length c7] 28)) H.heap.size #[.slice A l.length c7] 28:=Bk.new _ _ rfl;have k2:b3+1<=(H.alloc (.cells #[.slice A l.length c7] 28)).heap.size:=rN k3 N.size;obtain⟨p0,p1,p2,p3,p4,p5⟩:=(HB.out.keep M).aY;obtain⟨q0,q1,q2,q3,q4,q5⟩:=(HB.out.keep N).aY;have l0:aD (H.alloc (.cells #[.slice A l.length c7] 28)) wr.heap.size (.slice A l.length c7) l:=R.alloc _)
    | (refine JN _ rfl _ _ rfl (b3+1) (.slice L I J) vs rfl O8 _ _ _ _ rfl B8 (by have:=HV.out;omega) k2 ?_;intro g9 i3 w9 e9 f8 t6;have b9:=(HB.out.keep N).aO f8 (fun q e=>by obtain⟨d,t7⟩:=kF O8 e;exact bK (HB.out.keep N) t7 (by decide));obtain⟨r0,r1,r2,r3,r4,r5⟩:=b9.aY;have hD:=b9.free 3))
   all_goals
    have HN:Hid (Ea s w (sc s.t.k s.t.n (.slice Z s.t.len U) (.slice (some ⟨g,off,none⟩) s.K.length c1) (.slice Y s.f.length c2) (.slice W s.d.length c3)) b3 (b3+1) (k+1) D bM bM [] [] (w9.setCell ⟨b3,3,none⟩ (.slice (some ⟨g9,0,none⟩) (vs.length+1) i3))):=EB HL.out (by omega) HO.out HE.out HB.out z6.out t4 t5 HA.out HR.out o9 (by omega) hb k3 N l0 e9 f8;have hN:Hid (k<s.K.length):=f6;clear e9 f8 t6 b9 r0 r1 r2 r3 r4 r5 hD O R v2 M N O8 B8 k2 p0 p1 p2 p3 p4 p5 q0 q1 q2 q3 q4 q5 l0 x0 x1 x2 x3 x4 x5 y0 y1 y2 y3 y4 y5 f6;generalize w9.setCell ⟨b3,3,none⟩ (.slice (some ⟨g9,0,none⟩) (vs.length+1) i3)=wN at*;go_wp2_with fail;go_roundw
    case rel=>exact⟨k+1,by go_num,HN.out⟩
    case measure=>have:=hN.out;simp[intOf];omega
  ·obtain rfl:k=s.K.length:=by omega
   have ik:¬((s.K.length:Int)<(s.K.length:Int)):=by omega
   rw[List.take_length]at HE;have wL:=HV.out;obtain⟨L,I,J,i2⟩:∃a n c,lv=.slice a n c:=by
    obtain⟨a,c,e,-⟩:=dN.vs HO.out (by omega);exact⟨a,_,c,e⟩
   subst i2;have T0:=(HS.out.keep hb).ts;have R0:=(HS.out.keep hb).rs;have OT:aW wr (b3+1) (.slice none 0 0) []:=oN _ _ _ _ _;obtain⟨x0,x1,x2,x3,x4,x5⟩:=bB.aY;obtain⟨y0,y1,y2,y3,y4,y5⟩:=bA.aY;have HB:=(show Hid (Bk wr b3 #[.int .i64 s.t.k,.int .i64 s.t.n,D,.slice L I J,bM,bM] 30) from bB);have HA:=(show Hid (Bk wr w.heap.size (sc s.t.k s.t.n (.slice Z s.t.len U) (.slice a1 s.K.length c1) (.slice Y s.f.length c2) (.slice W s.d.length c3)) 30) from bA);have HR:=(show Hid (Bk wr (w.heap.size+1) #[.int .i64 0,.int .i64 0,.slice none 0 0,.slice none 0 0,.slice none 0 0,.slice none 0 0] 30) from bR);clear bA bB bR
   go_upto_region 8 with (at_builtin;refine D6 _ rfl _ _ rfl (b3+1) _ [] rfl OT _ s.f rfl T0 (by simp;omega) (by omega) ?_;intro v5 T v8 l4;obtain⟨F,c5,rfl⟩:∃a c,v5=.slice a s.f.length c:=qJ (l:=s.f) v8;have S:lY wr.heap.size wr T:=Below.aO (fH _ _) l4 (by omega) (fun q e=>by cases e);have b5:=HB.out.keep S;obtain⟨z0,z1,z2,z3,z4,z5⟩:=b5.aY;have hC:=b5.free 4)
   obtain⟨f0,g7,f5,f7,c9,l8,l5,b8⟩:dN (T.setCell ⟨b3,4,none⟩ (.slice F s.f.length c5)) (b3+1) (.slice L I J) vs/\gC (T.setCell ⟨b3,4,none⟩ (.slice F s.f.length c5)) (b3+1) vs s.K/\aW (T.setCell ⟨b3,4,none⟩ (.slice F s.f.length c5)) (b3+1) (.slice F s.f.length c5) s.f/\dR (fun g=>w.heap.size+2<=g/\g<b3+1/\g≠b3) (T.setCell ⟨b3,4,none⟩ (.slice F s.f.length c5)) s.t D /\
     Bk (T.setCell ⟨b3,4,none⟩ (.slice F s.f.length c5)) b3 #[.int .i64 s.t.k,.int .i64 s.t.n,D,.slice L I J,.slice F s.f.length c5,bM] 30/\Bk (T.setCell ⟨b3,4,none⟩ (.slice F s.f.length c5)) w.heap.size (sc s.t.k s.t.n (.slice Z s.t.len U) (.slice a1 s.K.length c1) (.slice Y s.f.length c2) (.slice W s.d.length c3)) 30/\Bk (T.setCell ⟨b3,4,none⟩ (.slice F s.f.length c5)) (w.heap.size+1) #[.int .i64 0,.int .i64 0,.slice none 0 0,.slice none 0 0,.slice none 0 0,.slice none 0 0] 30/\lY w.heap.size w (T.setCell ⟨b3,4,none⟩ (.slice F s.f.length c5)):=by
    have G:∀x,x≠b3->(T.setCell ⟨b3,4,none⟩ (.slice F s.f.length c5)).heap[x]?=T.heap[x]?:=fun x hx=>fD _ _ _ _ hx;refine⟨dN.cD (bJ HO.out S) b5,gC.cD (HE.out.keep S) b5,uP v8 b5,dR.set (z6.out.keep S) (fun g hp=>hp.2.2),b5.set 4 _,?_,?_,(aH hb S).setCell (by show _<=b3;omega) _⟩
    ·unfold Bk;rw[G _ (by omega)];exact HA.out.keep S
    ·unfold Bk;rw[G _ (by omega)];exact HR.out.keep S
   clear x0 x1 x2 x3 x4 x5 y0 y1 y2 y3 y4 y5 z0 z1 z2 z3 z4 z5 hC b5 S v8 l4 HO HE z6 HA HB HR T0 R0 OT hb t3;generalize (T.setCell ⟨b3,4,none⟩ (.slice F s.f.length c5))=w6 at*;have o8:=b8.size;have aF:=c9.lt;have R6:=(HS.out.keep b8).rs;have l9:aD w6 (b3+1) (.slice none 0 0) []:=oN _ _ _ _ _;obtain⟨x0,x1,x2,x3,x4,x5⟩:=c9.aY;obtain⟨y0,y1,y2,y3,y4,y5⟩:=l8.aY;have HB:=(show Hid (Bk w6 b3 #[.int .i64 s.t.k,.int .i64 s.t.n,D,.slice L I J,.slice F s.f.length c5,bM] 30) from c9);have HO:=(show Hid (dN w6 (b3+1) (.slice L I J) vs) from f0);have HE:=(show Hid (gC w6 (b3+1) vs s.K) from g7);have HT:=(show Hid (aW w6 (b3+1) (.slice F s.f.length c5) s.f) from f5);have z6:=(show Hid (dR (fun g=>w.heap.size+2<=g/\g<b3+1/\g≠b3) w6 s.t D) from f7);have HR:=(show Hid (Bk w6 (w.heap.size+1) #[.int .i64 0,.int .i64 0,.slice none 0 0,.slice none 0 0,.slice none 0 0,.slice none 0 0] 30) from l5);clear c9 l8 l5 f0 g7 f5 f7
   go_upto_region 9 with (at_builtin;refine kZ _ rfl _ _ rfl (b3+1) _ [] rfl l9 _ s.d rfl R6 (by simp;omega) (by omega) ?_;intro v7 H O v2;obtain⟨A,c7,rfl⟩:∃a c,v7=.slice a s.d.length c:=(by obtain⟨a,c,e,_⟩:=Rs.open (aD.rs O (by simp;omega));exact⟨a,c,by simpa using e⟩);have M:lY w6.heap.size w6 H:=Below.aO (fH _ _) v2 (by omega) (fun q e=>by cases e);have b7:=HB.out.keep M;obtain⟨z0,z1,z2,z3,z4,z5⟩:=b7.aY;have hB:=b7.free 5)
   have R:aD H (b3+1) (.slice A s.d.length c7) s.d:=O;obtain⟨z8,z9,v9,w2,w3,l7,c4,N⟩:dN (H.setCell ⟨b3,5,none⟩ (.slice A s.d.length c7)) (b3+1) (.slice L I J) vs/\gC (H.setCell ⟨b3,5,none⟩ (.slice A s.d.length c7)) (b3+1) vs s.K/\aW (H.setCell ⟨b3,5,none⟩ (.slice A s.d.length c7)) (b3+1) (.slice F s.f.length c5) s.f/\aD (H.setCell ⟨b3,5,none⟩ (.slice A s.d.length c7)) (b3+1) (.slice A s.d.length c7) s.d/\dR (fun g=>w.heap.size+2<=g/\g<b3+1/\g≠b3) (H.setCell ⟨b3,5,none⟩ (.slice A s.d.length c7)) s.t D /\
     Bk (H.setCell ⟨b3,5,none⟩ (.slice A s.d.length c7)) b3 #[.int .i64 s.t.k,.int .i64 s.t.n,D,.slice L I J,.slice F s.f.length c5,.slice A s.d.length c7] 30/\Bk (H.setCell ⟨b3,5,none⟩ (.slice A s.d.length c7)) (w.heap.size+1) #[.int .i64 0,.int .i64 0,.slice none 0 0,.slice none 0 0,.slice none 0 0,.slice none 0 0] 30/\lY w.heap.size w (H.setCell ⟨b3,5,none⟩ (.slice A s.d.length c7)):=by
    have G:∀x,x≠b3->(H.setCell ⟨b3,5,none⟩ (.slice A s.d.length c7)).heap[x]?=H.heap[x]?:=fun x hx=>fD _ _ _ _ hx;refine⟨dN.cD (bJ HO.out M) b7,gC.cD (HE.out.keep M) b7,uP (bJ HT.out M) b7,zQ R b7,dR.set (z6.out.keep M) (fun g hp=>hp.2.2),b7.set 5 _,?_,(aH b8 M).setCell (by show _<=b3;omega) _⟩;unfold Bk;rw[G _ (by omega)];exact HR.out.keep M
   clear x0 x1 x2 x3 x4 x5 y0 y1 y2 y3 y4 y5 z0 z1 z2 z3 z4 z5 hB b7 M O R v2 HO HE z6 HB HR HT R6 l9 b8 o8;generalize (H.setCell ⟨b3,5,none⟩ (.slice A s.d.length c7))=w8 at*;obtain⟨x0,x1,x2,x3,x4,x5⟩:=l7.aY;obtain⟨kk,kn,kc,j1⟩:∃a n c,D=.slice a n c:=by
    obtain⟨a,c,e⟩:=w3.sl;exact⟨a,_,c,e⟩
   subst j1;obtain⟨y0,y1,y2,y3,y4,y5⟩:=c4.aY;have g0:=c4.free 0;have q1:=c4.set 0 (.int .i64 s.t.k);have g1:=q1.free 1;have q2:=q1.set 1 (.int .i64 s.t.n);have g2:=q2.free 2;have q3:=q2.set 2 (.slice kk kn kc);have g3:=q3.free 3;have q4:=q3.set 3 (.slice L I J);have g4:=q4.free 4;have q5:=q4.set 4 (.slice F s.f.length c5);have g5:=q5.free 5;have q6:Bk ((((((w8.setCell ⟨w.heap.size+1,0,none⟩ (.int .i64 s.t.k)).setCell ⟨w.heap.size+1,1,none⟩ (.int .i64 s.t.n)).setCell ⟨w.heap.size+1,2,none⟩ (.slice kk kn kc)).setCell ⟨w.heap.size+1,3,none⟩ (.slice L I J)).setCell ⟨w.heap.size+1,4,none⟩ (.slice F s.f.length c5)).setCell ⟨w.heap.size+1,5,none⟩ (.slice A s.d.length c7)) (w.heap.size+1) #[.int .i64 s.t.k,.int .i64 s.t.n,.slice kk kn kc,.slice L I J,.slice F s.f.length c5,.slice A s.d.length c7] 30:=q5.set 5 (.slice A s.d.length c7);obtain⟨r0,r1,r2,r3,r4,r5⟩:=q6.aY;have G:∀x,x≠w.heap.size+1->((((((w8.setCell ⟨w.heap.size+1,0,none⟩ (.int .i64 s.t.k)).setCell ⟨w.heap.size+1,1,none⟩ (.int .i64 s.t.n)).setCell ⟨w.heap.size+1,2,none⟩ (.slice kk kn kc)).setCell ⟨w.heap.size+1,3,none⟩ (.slice L I J)).setCell ⟨w.heap.size+1,4,none⟩ (.slice F s.f.length c5)).setCell ⟨w.heap.size+1,5,none⟩ (.slice A s.d.length c7)).heap[x]?=w8.heap[x]?:=fun x hx=>(((((fD _ _ _ _ hx).trans (fD _ _ _ _ hx)).trans (fD _ _ _ _ hx)).trans (fD _ _ _ _ hx)).trans (fD _ _ _ _ hx)).trans (fD _ _ _ _ hx);have HF:Hid (lR ((((((w8.setCell ⟨w.heap.size+1,0,none⟩ (.int .i64 s.t.k)).setCell ⟨w.heap.size+1,1,none⟩ (.int .i64 s.t.n)).setCell ⟨w.heap.size+1,2,none⟩ (.slice kk kn kc)).setCell ⟨w.heap.size+1,3,none⟩ (.slice L I J)).setCell ⟨w.heap.size+1,4,none⟩ (.slice F s.f.length c5)).setCell ⟨w.heap.size+1,5,none⟩ (.slice A s.d.length c7)) w.heap.size (.slice kk kn kc) (.slice L I J) (.slice F s.f.length c5) (.slice A s.d.length c7) s):=by
    refine⟨w3.move fun x hx _=>⟨⟨by omega,fun e=>by have:=oB z8 x e;omega⟩,G x (by omega)⟩,⟨vs,bQ (dF z8 fun q e=>G q (by have:=oB z8 q e;omega)) (by omega),?_⟩,bQ (dF v9 fun q e=>G q (by have:=oB v9 q e;omega)) (by omega),bQ (dF w2 fun q e=>G q (by have:=oB w2 q e;omega)) (by omega)⟩;refine gC.less ⟨z9.1,fun i u l h1 h2=>?_,z9.2.2⟩ (show w.heap.size<=b3+1 by omega);have ho:=z9.2.1 i u l h1 h2;exact dF ho fun q e=>G q (by have:=oB ho q e;omega)
   have hO:Hid (lY w.heap.size w ((((((w8.setCell ⟨w.heap.size+1,0,none⟩ (.int .i64 s.t.k)).setCell ⟨w.heap.size+1,1,none⟩ (.int .i64 s.t.n)).setCell ⟨w.heap.size+1,2,none⟩ (.slice kk kn kc)).setCell ⟨w.heap.size+1,3,none⟩ (.slice L I J)).setCell ⟨w.heap.size+1,4,none⟩ (.slice F s.f.length c5)).setCell ⟨w.heap.size+1,5,none⟩ (.slice A s.d.length c7))):=(((((N.setCell (by simp) _).setCell (by simp) _).setCell (by simp) _).setCell (by simp) _).setCell (by simp) _).setCell (by simp) _;clear z8 z9 v9 w2 w3 l7 c4 N G q1 q2 q3 q4 q5 q6;go_wp2_with fail;refine iC (v:=sv s.t.k s.t.n (.slice kk kn kc) (.slice L I J) (.slice F s.f.length c5) (.slice A s.d.length c7)) (by simp[results,Tryz.results82,go_sem,r0,r1,r2,r3,r4,r5];try rfl) rfl ?_;exact⟨_,_,_,_,rfl,HF.out,hO.out⟩
end Go.Proofs.YtbdpcngcbnoioaaGreatDoor
