import Derived.Test.YtbdpcngcbnoioaaGreatDoorRows
import Derived.Handy
import Derived.WalkSpells
import Derived.WalkLawsBesides
import Derived.Deep.QuietTactic
import Derived.BigQuiet
import Derived.Orders
import Derived.Deep.DeepCutAuto
import Derived.Deep.DrawnRows
import Derived.Deep.RegionHeld3
set_option maxHeartbeats 1000000
namespace Go.Proofs.YtbdpcngcbnoioaaGreatDoor
open Go.RowKit
open _root_.List renaming pairwise_cons->fM,mem_cons->fQ,filter_cons->gD,cons_append->gM,mem_filter->gQ,map_cons->gX
open Go.Proofs.Tryz renaming prog->iM,ntmps129->iP,ntmps67->jB,func129->jO,func67->mO,ntmps132->nA,func132->nB
open Go renaming World->nT,Value->nX,TypeId->oU,Calls->oW,Program->pU,Oper->qV
open Go.RowKit.Below renaming refl->sD,setCell->tJ,drew->tK,heap_setCell->tL
open Go.RowKit renaming Below->tM
open Go.Region renaming ready->tN,wanted->xU
open _root_.Array renaming getElem?_eq_getElem->xV,replicate->AP
variable {Q:Exit->Act->nT->Prop}{c:Array nX}{i k:Nat}{t:oU}{v x y:nX}{w w1:nT}
abbrev LI:=List (Int × Int)
def Bk (w:nT)(k:Nat)(c:Array nX)(t:oU):Prop:=w.heap[k]?=some (.cells c t (0,0))
theorem Bk.lt (h:Bk w k c t):k<w.heap.size:=lt_of_block h
theorem Bk.keep (h:Bk w k c t)(g:tM w.heap.size w w1):Bk w1 k c t:=by
 unfold Bk;rw[g.block k h.lt];exact h
theorem Bk.two (h:Bk w k #[x,y] t):
  w.cell? ⟨k,0,none⟩=some x/\w.cell? ⟨k,1,none⟩=some y/\w.frozen? ⟨k,0,none⟩=false/\w.frozen? ⟨k,1,none⟩=false:=by
 unfold Bk at h;simp[nT.cell?,nT.frozen?,h]
theorem Bk.new (c:Array nX)(t:oU)(h:k=w.heap.size):Bk (w.alloc (.cells c t)) k c t:=by
 subst h;exact heap_alloc_new w _
theorem Bk.alloc (h:Bk w k c t)(o:Obj):Bk (w.alloc o) k c t:=by
 unfold Bk;rw[tM.heap_alloc _ _ _ h.lt];exact h
theorem Bk.drew (h:Bk w k c t):Bk w.drew k c t:=h
theorem Bk.apart (h:Bk w k c t){p:Addr}(hp:k≠p.block)(u:nX):Bk (w.setCell p u) k c t:=by
 unfold Bk;rw[tL _ _ _ _ hp];exact h
theorem Bk.set (h:Bk w k c t)(i:Nat)(u:nX):Bk (w.setCell ⟨k,i,none⟩ u) k (c.setIfInBounds i u) t:=by
 have g:=h.lt;have s:w.heap[k]=.cells c t (0,0):=by simpa[Bk,xV g]using h
 show (w.heap.modify k _)[k]?=_
 rw[xV (by simpa using g),Array.getElem_modify_self,s]
 rfl
theorem lC (h:w.cell? ⟨k,i,none⟩=some v):k<w.heap.size:=by
 rcases Nat.lt_or_ge k w.heap.size with g|g
 ·exact g
 ·simp[nT.cell?,Array.getElem?_eq_none g]at h
theorem Cy {a:Addr}(h:w.cell? a=some v):w.drew.cell? a=some v:=h
theorem vZ (h:w.cell? ⟨k,i,none⟩=some v){o:Obj}:(w.alloc o).cell? ⟨k,i,none⟩=some v:=by
 rw[nT.cell?_alloc_past _ _ _ (lC h)];exact h
theorem lX {u:nX}{p:Addr}(h:w.cell? ⟨k,i,none⟩=some v)(hp:k≠p.block):(w.setCell p u).cell? ⟨k,i,none⟩=some v:=by
 rw[nT.cell?_of_block (w:=w) (tL _ _ _ _ hp)];exact h
theorem Bk.ai (h:Bk w k #[x,y] t)(u v:nX):Bk ((w.setCell ⟨k,0,none⟩ u).setCell ⟨k,1,none⟩ v) k #[u,v] t:=(h.set 0 u).set 1 v
theorem lL (h:Bk w k #[x,y] t)(u:nX):(w.setCell ⟨k,0,none⟩ u).cell? ⟨k,0,none⟩=some u:=(h.set 0 u).two.1
theorem lM (h:Bk w k #[x,y] t)(u v:nX):((w.setCell ⟨k,0,none⟩ u).setCell ⟨k,1,none⟩ v).cell? ⟨k,1,none⟩=some v:=((h.set 0 u).set 1 v).two.2.1
theorem aG {W:nT}(h:tM w.heap.size w W)(g:tM W.heap.size W w1):tM w.heap.size w w1:=h.trans (g.mono h.size)
theorem aH {W:nT}(h:tM w.heap.size w W)(o:Obj):tM w.heap.size w (W.alloc o):=h.alloc h.size o
theorem dV {B:Nat}{a:nT}(h:tM B a w)(n:Nat):tM B a (w.drewN n):=⟨h.os,h.tape,h.output,h.size,h.block⟩
theorem vS {a b c d:Int}(h1:a=c)(h2:b=d):Ending.returned (.agg #[.int .i64 a,.int .i64 b])=.returned (.agg #[.int .i64 c,.int .i64 d]):=by rw[h1,h2]
theorem xZ {d:Array nX}{u:oU}(g:tM ((w.alloc (.cells c t)).alloc (.cells d u)).heap.size ((w.alloc (.cells c t)).alloc (.cells d u)) w1):Bk w1 w.heap.size c t/\Bk w1 (w.heap.size+1) d u:=
 ⟨((Bk.new c t rfl).alloc _).keep g,(Bk.new d u (by simp)).keep g⟩
theorem vF {d f:Array nX}{u v:oU}(g:tM (((w.alloc (.cells c t)).alloc (.cells d u)).alloc (.cells f v)).heap.size (((w.alloc (.cells c t)).alloc (.cells d u)).alloc (.cells f v)) w1):Bk w1 w.heap.size c t/\Bk w1 (w.heap.size+1) d u/\Bk w1 (w.heap.size+1+1) f v:=
 ⟨(((Bk.new c t rfl).alloc _).alloc _).keep g,((Bk.new d u (by simp)).alloc _).keep g,(Bk.new f v (by simp)).keep g⟩
theorem rB {b c:Bool}(h:b=c):Ending.returned (.bool b)=.returned (.bool c):=by rw[h]
structure eC (w:nT) where
 ww:nT
 below:tM w.heap.size w ww
theorem lF {P:pU}{id:Nat}{a:Act}{l:List qV}(hm:P.follows .mixedOrders=true)(s:Region.lexB .any l.toArray=true)
  (h:wpQuiet P l.toArray (fun g=>∃p:eC w,g=p.ww) (fun a'=>∀g,(∃p:eC w,g=p.ww)->Q .normal a' g) l a):(Code.region id l.toArray true).wp P Q a w:=
 wp_region_quiet (C:=fun g=>∃p:eC w,g=p.ww) hm s ⟨⟨_,(sD _ _).drew⟩,rfl⟩ (by simpa using h)
theorem jS {P:pU}{f:FuncId}{args:Array nX}{p:eC w}
  (h:oW P f args p.ww fun e g=>e=.returned v/\tM p.ww.heap.size p.ww g):oW P f args p.ww fun e s=>e=.returned v/\∃q:eC w,s=q.ww:=
 h.mono fun _ g ⟨A,B⟩=>⟨A,⟨g,aG p.below B⟩,rfl⟩
theorem kU {g:nT}(h:∃p:eC w,g=p.ww):tM w.heap.size w g:=by
 obtain⟨p,rfl⟩:=h;exact p.below
theorem lG (w:nT):Nonempty (eC w):=⟨⟨w,sD _ _⟩⟩
theorem Bk.de (h:Bk w k #[x,y] t)(p:eC w):p.ww.cell? ⟨k,0,none⟩=some x:=(h.keep p.below).two.1
theorem Bk.dc (h:Bk w k #[x,y] t)(p:eC w):p.ww.cell? ⟨k,1,none⟩=some y:=(h.keep p.below).two.2.1
theorem cB (g:tM w.heap.size w w1)(h:w.cell? ⟨k,i,none⟩=some v):w1.cell? ⟨k,i,none⟩=some v:=by
 rw[g.cell (p:=⟨k,i,none⟩) (lC h)];exact h
theorem RD (g:tM (w.alloc (.cells #[x,y] t)).drew.heap.size (w.alloc (.cells #[x,y] t)).drew w1):
  w1.cell? ⟨w.heap.size,0,none⟩=some x/\w1.cell? ⟨w.heap.size,1,none⟩=some y/\w1.frozen? ⟨w.heap.size,0,none⟩=false/\w1.frozen? ⟨w.heap.size,1,none⟩=false/\w.heap.size<w1.heap.size:=by
 have h:=(Bk.new (w:=w) #[x,y] t rfl).drew.keep g;exact⟨h.two.1,h.two.2.1,h.two.2.2.1,h.two.2.2.2,h.lt⟩
theorem P2 {C:Prop}(g:tM (w.alloc (.cells #[x,y] t)).drew.heap.size (w.alloc (.cells #[x,y] t)).drew w1)(k:w1.cell? ⟨w.heap.size,0,none⟩=some x->w1.cell? ⟨w.heap.size,1,none⟩=some y->w1.frozen? ⟨w.heap.size,0,none⟩=false->w1.frozen? ⟨w.heap.size,1,none⟩=false->w.heap.size<w1.heap.size->C):C:=
 let ⟨a,b,c,d,e⟩:=RD g
 k a b c d e
def kD (w:nT)(k:Nat)(t:oU):Prop:=∃x y,Bk w k #[x,y] t
theorem kD.ai (h:kD w k t)(u v:nX):Bk ((w.setCell ⟨k,0,none⟩ u).setCell ⟨k,1,none⟩ v) k #[u,v] t:=by
 obtain⟨x,y,h⟩:=h;exact h.ai u v
theorem kD.keep (h:kD w k t)(g:tM w.heap.size w w1):kD w1 k t:=by
 obtain⟨x,y,h⟩:=h;exact⟨x,y,h.keep g⟩
theorem kD.new (x y:nX)(t:oU)(h:k=w.heap.size):kD (w.alloc (.cells #[x,y] t)) k t:=⟨x,y,Bk.new _ _ h⟩
theorem kD.drew (h:kD w k t):kD w.drew k t:=h
def uR (L:Array Bool):Nat:=L.toList.countP (fun b=>!b)
theorem zQ {L:Array Bool}(h:L[i]?=some false):uR (L.setIfInBounds i true)+1=uR L:=by
 obtain⟨l⟩:=L;simp only[uR,List.setIfInBounds_toArray];simp only[List.getElem?_toArray]at h
 induction l generalizing i with
 | nil=>simp at h
 | cons b l ih=>
  cases i with
  | zero=>simp at h;subst h;simp
  | succ i=>
   have:=ih (i:=i) (by simpa using h);simp only[List.set_cons_succ,List.countP_cons];omega
theorem IJ {L:Array Bool}(h:L[i]?=some false):0<uR L:=by have:=zQ h;omega
theorem Lt {P:pU}{A:Region.Mode}{ops:Array qV}(Inv:Array Bool->Act->nT->Prop)
  (hg:∀(i:Nat)(o:qV),ops[i]?=some o->o.guard=none)
  (hs:∀L a w,Inv L a w->L.size=ops.size)
  (hstep:∀L a w (i:Nat) (o:qV),Inv L a w->i∈tN A ops L->ops[i]?=some o->o.wp P a w (fun a' H=>Inv (L.setIfInBounds i true) a' H) Q)
  (hend:∀L a w,Inv L a w->tN A ops L=[]->Q .normal a w):
  ∀(g:Nat)(L:Array Bool)(a:Act)(w:nT),uR L<=g->Inv L a w->wpAny P A ops Q g L a w:=by
 have D:∀L a w i,Inv L a w->i∈tN A ops L->L[i]?=some false:=fun L a w i s hi=>by
  obtain⟨h1,o,ho,_⟩:=mem_ready.1 hi;have G:i<L.size:=by rw[hs L a w s];exact (Array.getElem?_eq_some_iff.1 ho).1
  rw[xV G];simp[G]at h1;rw[h1]
 intro g
 induction g with
 | zero=>
  intro L a w O s;have B:tN A ops L=[]:=by
   cases hr:tN A ops L with
   | nil=>rfl
   | cons i r=>
    have:=IJ (D L a w i s (by rw[hr];simp));omega
  exact⟨B,hend L a w s B⟩
 | succ g ih=>
  intro L a w O s;refine⟨fun B=>hend L a w s B,fun i hi=>?_⟩;obtain⟨_,o,ho,_⟩:=mem_ready.1 hi;have h1:=hstep L a w i o s hi ho;have M:xU o (yielded ops a.tmps)=true:=by simp[xU,hg i o ho]
  unfold wpOp;rw[ho];simp only[M,if_true];refine .inl (qV.wp_mono (fun a' H I=>?_) h1);have:=zQ (D L a w i s hi);exact ih _ a' H (by omega) I
theorem Cc (n:Nat):uR (AP n false)=n:=by
 unfold uR;rw[Array.toList_replicate,List.countP_replicate];simp
theorem iW {P:pU}{ops:Array qV}{id:Nat}{a:Act}(hm:P.follows .mixedOrders=true)(Inv:Array Bool->Act->nT->Prop)
  (hg:∀(i:Nat)(o:qV),ops[i]?=some o->o.guard=none)
  (hs:∀L a w,Inv L a w->L.size=ops.size)
  (h0:Inv (AP ops.size false) a w.drew)
  (hstep:∀L a w (i:Nat) (o:qV),Inv L a w->i∈tN .any ops L->ops[i]?=some o->o.wp P a w (fun a' g=>Inv (L.setIfInBounds i true) a' g) Q)
  (hend:∀L a w,Inv L a w->tN .any ops L=[]->Q .normal a w):(Code.region id ops true).wp P Q a w:=
 wp_region_any hm (Lt Inv hg hs hstep hend ops.size _ _ _ (by rw[Cc];exact Nat.le_refl _) h0)
section
variable {K:Type}
def aK [DecidableEq K]:List (K×Int)->K->Int
 | [],_=>0
 | r::l,s=>(if r.1=s then r.2 else 0)+aK l s
def fA (g:K->Int):List (K×Int)->Int
 | []=>0
 | r::l=>r.2*g r.1+fA g l
theorem eI [DecidableEq K](l m:List (K×Int))(s:K):aK (l++m) s=aK l s+aK m s:=by
 induction l with
 | nil=>simp[aK]
 | cons r l ih=>simp only[gM,aK,ih];omega
theorem eG [DecidableEq K](l:List (K×Int))(r:K×Int)(s:K):aK (l++[r]) s=aK l s+(if r.1=s then r.2 else 0):=by
 rw[eI];simp[aK]
theorem G5 [DecidableEq K]{l m:List (K×Int)}(h:l.Perm m)(s:K):aK l s=aK m s:=by
 induction h with
 | nil=>rfl
 | cons x _ ih=>simp only[aK,ih]
 | swap x y l=>simp only[aK];omega
 | trans _ _ h1 h2=>rw[h1,h2]
theorem iS [DecidableEq K]{l:List (K×Int)}{s:K}(h:∀r∈l,r.1≠s):aK l s=0:=by
 induction l with
 | nil=>rfl
 | cons r l ih=>
  simp only[aK];rw[if_neg (h r (by simp)),ih (fun q hq=>h q (by simp[hq]))];rfl
theorem AO (g:K->Int)(l m:List (K×Int)):fA g (l++m)=fA g l+fA g m:=by
 induction l with
 | nil=>simp[fA]
 | cons r l ih=>simp only[gM,fA,ih];omega
theorem JY {g h:K->Int}{l:List (K×Int)}(e:∀r∈l,g r.1=h r.1):fA g l=fA h l:=by
 induction l with
 | nil=>rfl
 | cons r l ih=>simp only[fA];rw[e r (by simp),ih (fun q hq=>e q (by simp[hq]))]
theorem G6 {J:Type}[DecidableEq J](p:K->Bool)(f:K->J)(l:List (K×Int))(s:J):aK ((l.filter fun r=>p r.1).map fun r=>(f r.1,r.2)) s=fA (fun x=>if p x=true/\f x=s then 1 else 0) l:=by
 induction l with
 | nil=>rfl
 | cons r l ih=>
  rw[gD]
  by_cases hp:p r.1=true
  ·simp only[hp,if_true,gX,aK,fA,ih,true_and];split<;>omega
  ·rw[if_neg hp,ih];simp[fA,hp]
theorem Ca [DecidableEq K](l:List (K×Int))(s:K):aK (l.map fun r=>(r.1,-r.2)) s =-aK l s:=by
 induction l with
 | nil=>rfl
 | cons r l ih=>simp only[gX,aK,ih];split<;>omega
structure pB (lt:K->K->Bool):Prop where
 irr:∀a,lt a a=false
 trans:∀a b c,lt a b=true->lt b c=true->lt a c=true
 tri:∀a b,lt a b=false->lt b a=false->a=b
variable {lt:K->K->Bool}
def kF (lt:K->K->Bool)(l:List (K×Int)):Prop:=l.Pairwise fun p q=>lt p.1 q.1=true
def Nz (l:List (K×Int)):Prop:=∀r∈l,r.2≠0
def fP (lt:K->K->Bool)(r:K×Int):List (K×Int)->List (K×Int)
 | []=>[r]
 | x::l=>if lt r.1 x.1 then r::x::l else if lt x.1 r.1 then x::fP lt r l else (r.1,r.2+x.2)::l
theorem NI [DecidableEq K](O:pB lt)(r:K×Int)(l:List (K×Int))(s:K):aK (fP lt r l) s=aK l s+(if r.1=s then r.2 else 0):=by
 induction l with
 | nil=>simp[fP,aK]
 | cons x l ih=>
  unfold fP
  by_cases h1:lt r.1 x.1=true
  ·rw[if_pos h1];simp only[aK];omega
  ·rw[if_neg h1]
   by_cases h2:lt x.1 r.1=true
   ·rw[if_pos h2];simp only[aK,ih];omega
   ·rw[if_neg h2];have e:r.1=x.1:=O.tri _ _ (by simpa using h1) (by simpa using h2);simp only[aK,e];split<;>omega
theorem LB (O:pB lt)(g:K->Int)(r:K×Int)(l:List (K×Int)):fA g (fP lt r l)=fA g l+r.2*g r.1:=by
 induction l with
 | nil=>simp[fP,fA]
 | cons x l ih=>
  unfold fP
  by_cases h1:lt r.1 x.1=true
  ·rw[if_pos h1];simp only[fA];omega
  ·rw[if_neg h1]
   by_cases h2:lt x.1 r.1=true
   ·rw[if_pos h2];simp only[fA,ih];omega
   ·rw[if_neg h2];have e:r.1=x.1:=O.tri _ _ (by simpa using h1) (by simpa using h2);simp only[fA,e,Int.add_mul];omega
theorem Fe {r:K×Int}{l:List (K×Int)}{q:K×Int}(h:q∈fP lt r l):q.1=r.1\/q∈l:=by
 induction l with
 | nil=>simp[fP]at h;exact .inl (by rw[h])
 | cons x l ih=>
  unfold fP at h
  by_cases h1:lt r.1 x.1=true
  ·rw[if_pos h1]at h
   rcases fQ.1 h with rfl|h
   ·exact .inl rfl
   ·exact .inr h
  ·rw[if_neg h1]at h
   by_cases h2:lt x.1 r.1=true
   ·rw[if_pos h2]at h
    rcases fQ.1 h with rfl|h
    ·exact .inr (by simp)
    ·rcases ih h with h|h
     ·exact .inl h
     ·exact .inr (by simp[h])
   ·rw[if_neg h2]at h
    rcases fQ.1 h with rfl|h
    ·exact .inl rfl
    ·exact .inr (by simp[h])
theorem NH (O:pB lt){r:K×Int}{l:List (K×Int)}(h:kF lt l):kF lt (fP lt r l):=by
 induction l with
 | nil=>simp[fP,kF]
 | cons x l ih=>
  obtain⟨hx,hl⟩:=fM.1 h;unfold fP
  by_cases h1:lt r.1 x.1=true
  ·rw[if_pos h1];refine fM.2 ⟨fun q hq=>?_,h⟩
   rcases fQ.1 hq with rfl|hq
   ·exact h1
   ·exact O.trans _ _ _ h1 (hx q hq)
  ·rw[if_neg h1]
   by_cases h2:lt x.1 r.1=true
   ·rw[if_pos h2];refine fM.2 ⟨fun q hq=>?_,ih hl⟩
    rcases Fe hq with e|hq
    ·rw[e];exact h2
    ·exact hx q hq
   ·rw[if_neg h2];have e:r.1=x.1:=O.tri _ _ (by simpa using h1) (by simpa using h2);refine fM.2 ⟨fun q hq=>?_,hl⟩
    show lt r.1 q.1=true
    rw[e];exact hx q hq
theorem NG (lt:K->K->Bool)(r:K×Int)(l:List (K×Int)):(fP lt r l).length<=l.length+1:=by
 induction l with
 | nil=>simp[fP]
 | cons x l ih=>
  unfold fP
  by_cases h1:lt r.1 x.1=true
  ·rw[if_pos h1];simp
  ·rw[if_neg h1]
   by_cases h2:lt x.1 r.1=true
   ·rw[if_pos h2];simp;omega
   ·rw[if_neg h2];simp
def iF (lt:K->K->Bool)(l:List (K×Int)):List (K×Int):=l.foldl (fun m r=>fP lt r m) []
theorem lV (lt:K->K->Bool)(l:List (K×Int))(r:K×Int):iF lt (l++[r])=fP lt r (iF lt l):=by
 unfold iF;rw[List.foldl_append];rfl
theorem p6 {A:Type}{p:List A->Prop}(h0:p [])(h1:∀l r,p l->p (l++[r]))(l:List A):p l:=by
 have:∀m:List A,p m.reverse:=fun m=>by
  induction m with
  | nil=>exact h0
  | cons x m ih=>rw[List.reverse_cons];exact h1 _ _ ih
 have:=this l.reverse
 rwa [List.reverse_reverse]at this
theorem Fy [DecidableEq K](O:pB lt)(l:List (K×Int))(s:K):aK (iF lt l) s=aK l s:=by
 induction l using p6 with
 | h0=>rfl
 | h1 l r ih=>rw[lV,NI O,ih,eG]
theorem La (O:pB lt)(g:K->Int)(l:List (K×Int)):fA g (iF lt l)=fA g l:=by
 induction l using p6 with
 | h0=>rfl
 | h1 l r ih=>rw[lV,LB O,ih,AO];simp[fA]
theorem Fx (O:pB lt)(l:List (K×Int)):kF lt (iF lt l):=by
 induction l using p6 with
 | h0=>simp[iF,kF]
 | h1 l r ih=>rw[lV];exact NH O ih
theorem Fw (lt:K->K->Bool)(l:List (K×Int)):(iF lt l).length<=l.length:=by
 induction l using p6 with
 | h0=>simp[iF]
 | h1 l r ih=>rw[lV];have:=NG lt r (iF lt l);simp;omega
theorem NW {l:List (K×Int)}{q:K×Int}(h:q∈iF lt l):∃r∈l,r.1=q.1:=by
 induction l using p6 generalizing q with
 | h0=>simp[iF]at h
 | h1 l r ih=>
  rw[lV]at h
  rcases Fe h with e|h
  ·exact⟨r,by simp,e.symm⟩
  ·obtain⟨g,h1,h2⟩:=ih h;exact⟨g,by simp[h1],h2⟩
def aO (lt:K->K->Bool)(l:List (K×Int)):List (K×Int):=(iF lt l).filter fun r=>decide (r.2≠0)
theorem xP [DecidableEq K](l:List (K×Int))(s:K):aK (l.filter fun r=>decide (r.2≠0)) s=aK l s:=by
 induction l with
 | nil=>rfl
 | cons r l ih=>
  rw[gD]
  by_cases h:r.2=0
  ·simp[h,aK];simpa using ih
  ·simp[h,aK];simpa using ih
theorem Bz (g:K->Int)(l:List (K×Int)):fA g (l.filter fun r=>decide (r.2≠0))=fA g l:=by
 induction l with
 | nil=>rfl
 | cons r l ih=>
  rw[gD]
  by_cases h:r.2=0
  ·simp[h,fA];simpa using ih
  ·simp[h,fA];simpa using ih
theorem lJ [DecidableEq K](O:pB lt)(l:List (K×Int))(s:K):aK (aO lt l) s=aK l s:=by
 unfold aO;rw[xP,Fy O]
theorem uQ (O:pB lt)(g:K->Int)(l:List (K×Int)):fA g (aO lt l)=fA g l:=by
 unfold aO;rw[Bz,La O]
theorem kN (O:pB lt)(l:List (K×Int)):kF lt (aO lt l):=(Fx O l).filter _
theorem pP (lt:K->K->Bool)(l:List (K×Int)):Nz (aO lt l):=fun r hr=>by
 have:=(gQ.1 hr).2;simpa using this
theorem gP (lt:K->K->Bool)(l:List (K×Int)):(aO lt l).length<=l.length:=
 Nat.le_trans (List.length_filter_le _ _) (Fw lt l)
theorem qM {l:List (K×Int)}{q:K×Int}(h:q∈aO lt l):∃r∈l,r.1=q.1:=NW (gQ.1 h).1
theorem sL [DecidableEq K](O:pB lt){l:List (K×Int)}(h:kF lt l){r:K×Int}(hr:r∈l):aK l r.1=r.2:=by
 induction l with
 | nil=>simp at hr
 | cons x l ih=>
  obtain⟨hx,hl⟩:=fM.1 h;simp only[aK]
  rcases fQ.1 hr with rfl|hr
  ·rw[if_pos rfl,iS (fun q hq e=>by have:=hx q hq;rw[e,O.irr]at this;cases this)];omega
  ·rw[if_neg (fun e=>by have:=hx r hr;rw[e,O.irr]at this;cases this),ih hl hr];omega
theorem CY [DecidableEq K](O:pB lt){l:List (K×Int)}(h:kF lt l)(hn:Nz l)(r:K×Int):r∈l↔r.2≠0/\aK l r.1=r.2:=by
 constructor
 ·exact fun hr=>⟨hn r hr,sL O h hr⟩
 ·rintro⟨h0,h1⟩
  by_cases hx:∃q∈l,q.1=r.1
  ·obtain⟨q,hq,e⟩:=hx;have:=sL O h hq;rw[e]at this;obtain rfl:q=r:=Prod.ext e (by omega);exact hq
  ·exact absurd (iS fun q hq e=>hx ⟨q,hq,e⟩) (by omega)
theorem zN (O:pB lt):∀{l m:List (K×Int)},kF lt l->kF lt m->(∀r,r∈l↔r∈m)->l=m
 | [],[],_,_,_=>rfl
 | [],y::m,_,_,h=>by have:=(h y).2 (by simp);simp at this
 | x::l,[],_,_,h=>by have:=(h x).1 (by simp);simp at this
 | x::l,y::m,hl,hm,h=>by
  obtain⟨hx,H⟩:=fM.1 hl;obtain⟨B,G⟩:=fM.1 hm;have g:∀{a b:K×Int},lt a.1 b.1=true->a≠b:=fun {a b} h e=>by rw[e,O.irr]at h;cases h
  have e:x=y:=by
   rcases fQ.1 ((h x).1 (by simp)) with e|D
   ·exact e
   ·rcases fQ.1 ((h y).2 (by simp)) with e|A
    ·exact e.symm
    ·exact absurd rfl (g (O.trans _ _ _ (hx y A) (B x D)))
  subst e
  congr 1
  refine zN O H G fun r=>⟨fun hr=>?_,fun hr=>?_⟩
  ·rcases fQ.1 ((h r).1 (by simp[hr])) with e|s
   ·exact absurd e.symm (g (hx r hr))
   ·exact s
  ·rcases fQ.1 ((h r).2 (by simp[hr])) with e|s
   ·exact absurd e.symm (g (B r hr))
   ·exact s
theorem n8 [DecidableEq K](O:pB lt){l m:List (K×Int)}(hs:kF lt m)(hn:Nz m)(h:∀s,aK m s=aK l s):m=aO lt l:=
 zN O hs (kN O l) fun r=>by
  rw[CY O hs hn,CY O (kN O l) (pP lt l),h,lJ O]
theorem lD [DecidableEq K](O:pB lt){l m:List (K×Int)}(h:∀s,aK l s=aK m s):aO lt l=aO lt m:=
 n8 O (kN O l) (pP lt l) fun s=>by rw[lJ O,h]
theorem Dc [DecidableEq K](O:pB lt){l:List (K×Int)}(hs:kF lt l)(hn:Nz l):aO lt l=l:=(n8 O hs hn fun _=>rfl).symm
def aJ:List (K×Int)->Int
 | []=>0
 | r::l=>r.2.natAbs+aJ l
theorem eN (l:List (K×Int)):0<=aJ l:=by
 induction l with
 | nil=>simp[aJ]
 | cons r l ih=>simp only[aJ];omega
theorem cV (l m:List (K×Int)):aJ (l++m)=aJ l+aJ m:=by
 induction l with
 | nil=>simp[aJ]
 | cons r l ih=>simp only[gM,aJ,ih];omega
theorem iT [DecidableEq K](l:List (K×Int))(s:K): -aJ l<=aK l s/\aK l s<=aJ l:=by
 induction l with
 | nil=>simp[aJ,aK]
 | cons r l ih=>have:=eN l;simp only[aJ,aK];split<;>omega
theorem mP {l:List (K×Int)}{c:Int}(h:∀r∈l,-c<=r.2/\r.2<=c):aJ l<=c*l.length:=by
 induction l with
 | nil=>simp[aJ]
 | cons r l ih=>
  have h1:=h r (by simp);have h2:=ih fun q hq=>h q (by simp[hq]);simp only[aJ,List.length_cons];have:c*((l.length+1:Nat):Int)=c*l.length+c:=by rw[Int.natCast_add,Int.mul_add];simp
  omega
theorem Nb [DecidableEq K](O:pB lt){l:List (K×Int)}{r:K×Int}(h:r∈aO lt l): -aJ l<=r.2/\r.2<=aJ l:=by
 have:=sL O (kN O l) h;rw[lJ O]at this;have:=iT l r.1;omega
end
abbrev tv (a b:Int):nX:= .agg #[.int .i64 a,.int .i64 b]
def cG (n lo hi:Int):Bool:=decide (lo<=n/\n<=hi)
def bM (a b:Int):Bool:=decide (0<=a/\a<=7/\0<=b/\b<=7)
theorem QA (a b:Int):bM a b=(cG a 0 7&&cG b 0 7):=by unfold bM cG;rw[Bool.eq_iff_iff];simp;omega
theorem sZ (n g hi:Int)(w:nT):
  oW iM 132 #[.int .i64 n,.int .i64 g,.int .i64 hi] w fun e s=>e=.returned (.bool (cG n g hi))/\s=w:=by
 by_cases h1:g<=n
 ·by_cases h2:n<=hi
  ·have e:Hid (cG n g hi=true):=by simp[Hid,cG,h1,h2]
   go_enter nB,nA
   go_wp2
   go_ret;exact⟨rB e.out.symm,rfl⟩
  ·have e:Hid (cG n g hi=false):=by simp[Hid,cG,h2]
   go_enter nB,nA
   go_wp2
   go_ret;exact⟨rB e.out.symm,rfl⟩
 ·have e:Hid (cG n g hi=false):=by simp[Hid,cG,h1]
  go_enter nB,nA
  go_wp2
  go_ret;exact⟨rB e.out.symm,rfl⟩
theorem xQ (a b:Int)(w:nT):
  oW iM 135 #[tv a b] w fun e g=>e=.returned (tv a b)/\g=(w.alloc (.cells #[.int .i64 a,.int .i64 b] 32)).alloc (.cells #[.int .i64 a,.int .i64 b] 154):=by
 go_enter Tryz.func135,Tryz.ntmps135
 go_wp2
 go_returns
 exact⟨rfl,rfl⟩
theorem JX (a b:Int)(w:nT):
  oW iM 168 #[tv a b] w fun e g=>e=.returned (tv a b)/\tM w.heap.size w g:=by
 go_enter Tryz.func168,Tryz.ntmps168
 go_wp2
 go_returns
 refine⟨rfl,?_⟩
 go_grown
theorem fZ (a b:Int)(w:nT):
  oW iM 65 #[tv a b] w fun e g=>e=.returned (.bool (bM a b))/\tM w.heap.size w g:=by
 rw[QA];go_enter Tryz.func65,Tryz.ntmps65;cases ha:cG a 0 7
 ·go_wp2_with (go_at_call 132;refine (sZ _ _ _ _).mono ?_;rintro e g ⟨rfl,rfl⟩)
  go_ret;refine⟨rfl,?_⟩
  go_grown
 ·go_wp2_with (go_at_call 132;refine (sZ _ _ _ _).mono ?_;rintro e g ⟨rfl,rfl⟩)
  go_ret;refine⟨rfl,?_⟩
  go_grown
theorem Oe (a b:Int):(∀w:nT,(Instr.index 154 (.agg #[.int .i64 a,.int .i64 b]) (.int .i64 0)).run iM w=.ok (.int .i64 a) w)/\(∀w:nT,(Instr.index 154 (.agg #[.int .i64 a,.int .i64 b]) (.int .i64 1)).run iM w=.ok (.int .i64 b) w):=
 ⟨fun _=>by kernel_rfl,fun _=>by kernel_rfl⟩
theorem gW (a b:Int)(w:nT):
  oW iM 67 #[tv a b] w fun e g=>e=.returned (.bool (bM a b))/\tM w.heap.size w g:=by
 obtain⟨i0,s⟩:=Oe a b;have H:Hid (bM a b=decide (0<=a/\a<=7/\0<=b/\b<=7)):=rfl
 by_cases h1:0<=a
 ·by_cases h2:a<=7
  ·by_cases h3:0<=b
   ·by_cases h4:b<=7
    all_goals
     go_enter mO,jB
     go_wp2
     go_rounds 3
     go_returns
     refine⟨rB (by rw[H.out];simp;omega),?_⟩
     go_grown
   ·go_enter mO,jB
    go_wp2
    go_rounds 3
    go_returns
    refine⟨rB (by rw[H.out];simp;omega),?_⟩
    go_grown
  ·go_enter mO,jB
   go_wp2
   go_rounds 3
   go_returns
   refine⟨rB (by rw[H.out];simp;omega),?_⟩
   go_grown
 ·go_enter mO,jB
  go_wp2
  go_rounds 3
  go_returns
  refine⟨rB (by rw[H.out];simp;omega),?_⟩
  go_grown
attribute [local go_sem ↓] Go.wp_at_zero Go.wp_at_succ
def cX (a b c d:Int):Bool:=bM a b&&bM c d&&decide (a<=c)&&decide (b<=d)
theorem Fu (a b c d:Int)(w:nT):
  oW iM 129 #[tv a b,tv c d] w fun e T=>e=.returned (.bool (cX a b c d))/\tM w.heap.size w T:=by
 have H:Hid (cX a b c d=(bM a b&&bM c d&&decide (a<=c)&&decide (b<=d))):=rfl;cases hs:bM a b
 ·go_enter jO,iP;go_wp2_with fail;refine (fZ _ _ _).mono ?_;rintro e w1 ⟨rfl,s⟩;go_wp2_with fail;go_ret;refine⟨rB (by rw[H.out];simp[hs]),?_⟩
  repeat' (first|(with_reducible exact sD _ _)|(with_reducible assumption)|(with_reducible refine aG ?_ (by with_reducible assumption))|(with_reducible refine aH ?_ _)|(with_reducible refine tK ?_)|(with_reducible refine dV ?_ _)|(with_reducible refine tJ ?_ ?_ _)|(simp;done)|(simp;omega)|omega)
 ·cases U:bM c d
  ·go_enter jO,iP;go_wp2_with fail;refine (fZ _ _ _).mono ?_;rintro e w1 ⟨rfl,s⟩;obtain⟨B,A⟩:=xZ s;obtain⟨I,G,_,_⟩:=A.two;go_wp2_with fail;refine (fZ _ _ _).mono ?_;rintro e D ⟨rfl,g⟩;go_wp2_with fail;go_ret;refine⟨rB (by rw[H.out];simp[U]),?_⟩
   repeat' (first|(with_reducible exact sD _ _)|(with_reducible assumption)|(with_reducible refine aG ?_ (by with_reducible assumption))|(with_reducible refine aH ?_ _)|(with_reducible refine tK ?_)|(with_reducible refine dV ?_ _)|(with_reducible refine tJ ?_ ?_ _)|(simp;done)|(simp;omega)|omega)
  ·by_cases h1:a<=c
   ·by_cases h2:b<=d
    all_goals
     go_enter jO,iP;go_wp2_with fail;refine (fZ _ _ _).mono ?_;rintro e w1 ⟨rfl,s⟩;obtain⟨B,A⟩:=xZ s;obtain⟨s0,s1,_,_⟩:=B.two;obtain⟨I,G,_,_⟩:=A.two;go_wp2_with fail;refine (fZ _ _ _).mono ?_;rintro e D ⟨rfl,g⟩;obtain⟨S,R,_,_⟩:=(B.keep g).two;obtain⟨O,M,_,_⟩:=(A.keep g).two;go_wp2_with fail;go_ret;refine⟨rB (by rw[H.out];simp[*]),?_⟩
     repeat' (first|(with_reducible exact sD _ _)|(with_reducible assumption)|(with_reducible refine aG ?_ (by with_reducible assumption))|(with_reducible refine aH ?_ _)|(with_reducible refine tK ?_)|(with_reducible refine dV ?_ _)|(with_reducible refine tJ ?_ ?_ _)|(simp;done)|(simp;omega)|omega)
   ·go_enter jO,iP;go_wp2_with fail;refine (fZ _ _ _).mono ?_;rintro e w1 ⟨rfl,s⟩;obtain⟨B,A⟩:=xZ s;obtain⟨s0,s1,_,_⟩:=B.two;obtain⟨I,G,_,_⟩:=A.two;go_wp2_with fail;refine (fZ _ _ _).mono ?_;rintro e D ⟨rfl,g⟩;obtain⟨S,R,_,_⟩:=(B.keep g).two;obtain⟨O,M,_,_⟩:=(A.keep g).two;go_wp2_with fail;go_ret;refine⟨rB (by rw[H.out];simp;omega),?_⟩
    repeat' (first|(with_reducible exact sD _ _)|(with_reducible assumption)|(with_reducible refine aG ?_ (by with_reducible assumption))|(with_reducible refine aH ?_ _)|(with_reducible refine tK ?_)|(with_reducible refine dV ?_ _)|(with_reducible refine tJ ?_ ?_ _)|(simp;done)|(simp;omega)|omega)
end Go.Proofs.YtbdpcngcbnoioaaGreatDoor
