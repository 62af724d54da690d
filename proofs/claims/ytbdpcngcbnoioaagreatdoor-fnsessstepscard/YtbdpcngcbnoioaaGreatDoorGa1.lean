import Derived.Test.YtbdpcngcbnoioaaGreatDoorRows
import Derived.Handy
import Derived.WalkSpells
import Derived.WalkLawsBesides
import Derived.Deep.QuietTactic
import Derived.BigQuiet
import Derived.Orders
import Derived.Deep.DeepCutAuto
import Derived.Deep.DrawnRows
import Derived.Deep.RegionHeld3
set_option maxHeartbeats 1000000
namespace Go.Proofs.YtbdpcngcbnoioaaGreatDoor
open Go.RowKit
open _root_.List renaming pairwise_cons->fD,mem_cons->fH,cons_append->fV,mem_filter->gY
open Go.Proofs.Tryz renaming prog->gZ,ntmps129->iC,ntmps67->jU,func129->kR,func67->kX,ntmps132->lI,func132->lY
open Go renaming World->mF,Value->mJ,Calls->nU,TypeId->oJ,Program->oO,Oper->qA
open Go.RowKit.Below renaming refl->rN,setCell->sE,drew->sG,heap_setCell->sH
open Go.RowKit renaming Below->sI
open Go.Region renaming ready->wH,wanted->wR
open _root_.Array renaming getElem?_eq_getElem->AT,replicate->B3
variable {Q:Exit->Act->mF->Prop}{c:Array mJ}{i k:Nat}{t:oJ}{v x y:mJ}{w w1:mF}
abbrev LI:=List (Int × Int)
def Bk (w:mF)(k:Nat)(c:Array mJ)(t:oJ):Prop:=w.heap[k]?=some (.cells c t (0,0))
theorem Bk.lt (h:Bk w k c t):k<w.heap.size:=lt_of_block h
theorem Bk.keep (h:Bk w k c t)(g:sI w.heap.size w w1):Bk w1 k c t:=by
 unfold Bk;rw[g.block k h.lt];exact h
theorem Bk.two (h:Bk w k #[x,y] t):
  w.cell? ⟨k,0,none⟩=some x/\w.cell? ⟨k,1,none⟩=some y/\w.frozen? ⟨k,0,none⟩=false/\w.frozen? ⟨k,1,none⟩=false:=by
 unfold Bk at h;simp[mF.cell?,mF.frozen?,h]
theorem Bk.new (c:Array mJ)(t:oJ)(h:k=w.heap.size):Bk (w.alloc (.cells c t)) k c t:=by
 subst h;exact heap_alloc_new w _
theorem Bk.alloc (h:Bk w k c t)(o:Obj):Bk (w.alloc o) k c t:=by
 unfold Bk;rw[sI.heap_alloc _ _ _ h.lt];exact h
theorem Bk.drew (h:Bk w k c t):Bk w.drew k c t:=h
theorem Bk.apart (h:Bk w k c t){p:Addr}(hp:k≠p.block)(u:mJ):Bk (w.setCell p u) k c t:=by
 unfold Bk;rw[sH _ _ _ _ hp];exact h
theorem Bk.set (h:Bk w k c t)(i:Nat)(u:mJ):Bk (w.setCell ⟨k,i,none⟩ u) k (c.setIfInBounds i u) t:=by
 have g:=h.lt;have s:w.heap[k]=.cells c t (0,0):=by simpa[Bk,AT g]using h
 show (w.heap.modify k _)[k]?=_
 rw[AT (by simpa using g),Array.getElem_modify_self,s]
 rfl
theorem lC (h:w.cell? ⟨k,i,none⟩=some v):k<w.heap.size:=by
 rcases Nat.lt_or_ge k w.heap.size with g|g
 ·exact g
 ·simp[mF.cell?,Array.getElem?_eq_none g]at h
theorem By {a:Addr}(h:w.cell? a=some v):w.drew.cell? a=some v:=h
theorem vE (h:w.cell? ⟨k,i,none⟩=some v){o:Obj}:(w.alloc o).cell? ⟨k,i,none⟩=some v:=by
 rw[mF.cell?_alloc_past _ _ _ (lC h)];exact h
theorem kW {u:mJ}{p:Addr}(h:w.cell? ⟨k,i,none⟩=some v)(hp:k≠p.block):(w.setCell p u).cell? ⟨k,i,none⟩=some v:=by
 rw[mF.cell?_of_block (w:=w) (sH _ _ _ _ hp)];exact h
theorem Bk.ag (h:Bk w k #[x,y] t)(u v:mJ):Bk ((w.setCell ⟨k,0,none⟩ u).setCell ⟨k,1,none⟩ v) k #[u,v] t:=(h.set 0 u).set 1 v
theorem kM (h:Bk w k #[x,y] t)(u:mJ):(w.setCell ⟨k,0,none⟩ u).cell? ⟨k,0,none⟩=some u:=(h.set 0 u).two.1
theorem kK (h:Bk w k #[x,y] t)(u v:mJ):((w.setCell ⟨k,0,none⟩ u).setCell ⟨k,1,none⟩ v).cell? ⟨k,1,none⟩=some v:=((h.set 0 u).set 1 v).two.2.1
theorem aH {W:mF}(h:sI w.heap.size w W)(g:sI W.heap.size W w1):sI w.heap.size w w1:=h.trans (g.mono h.size)
theorem aG {W:mF}(h:sI w.heap.size w W)(o:Obj):sI w.heap.size w (W.alloc o):=h.alloc h.size o
theorem dC {B:Nat}{a:mF}(h:sI B a w)(n:Nat):sI B a (w.drewN n):=⟨h.os,h.tape,h.output,h.size,h.block⟩
theorem tZ {a b c d:Int}(h1:a=c)(h2:b=d):Ending.returned (.agg #[.int .i64 a,.int .i64 b])=.returned (.agg #[.int .i64 c,.int .i64 d]):=by rw[h1,h2]
theorem wQ {d:Array mJ}{u:oJ}(g:sI ((w.alloc (.cells c t)).alloc (.cells d u)).heap.size ((w.alloc (.cells c t)).alloc (.cells d u)) w1):Bk w1 w.heap.size c t/\Bk w1 (w.heap.size+1) d u:=
 ⟨((Bk.new c t rfl).alloc _).keep g,(Bk.new d u (by simp)).keep g⟩
theorem uL {d f:Array mJ}{u v:oJ}(g:sI (((w.alloc (.cells c t)).alloc (.cells d u)).alloc (.cells f v)).heap.size (((w.alloc (.cells c t)).alloc (.cells d u)).alloc (.cells f v)) w1):Bk w1 w.heap.size c t/\Bk w1 (w.heap.size+1) d u/\Bk w1 (w.heap.size+1+1) f v:=
 ⟨(((Bk.new c t rfl).alloc _).alloc _).keep g,((Bk.new d u (by simp)).alloc _).keep g,(Bk.new f v (by simp)).keep g⟩
theorem rB {b c:Bool}(h:b=c):Ending.returned (.bool b)=.returned (.bool c):=by rw[h]
structure dH (w:mF) where
 ww:mF
 below:sI w.heap.size w ww
theorem jJ {P:oO}{id:Nat}{a:Act}{l:List qA}(hm:P.follows .mixedOrders=true)(s:Region.lexB .any l.toArray=true)
  (h:wpQuiet P l.toArray (fun g=>∃p:dH w,g=p.ww) (fun a'=>∀g,(∃p:dH w,g=p.ww)->Q .normal a' g) l a):(Code.region id l.toArray true).wp P Q a w:=
 wp_region_quiet (C:=fun g=>∃p:dH w,g=p.ww) hm s ⟨⟨_,(rN _ _).drew⟩,rfl⟩ (by simpa using h)
theorem iJ {P:oO}{f:FuncId}{args:Array mJ}{p:dH w}
  (h:nU P f args p.ww fun e g=>e=.returned v/\sI p.ww.heap.size p.ww g):nU P f args p.ww fun e s=>e=.returned v/\∃q:dH w,s=q.ww:=
 h.mono fun _ g ⟨A,B⟩=>⟨A,⟨g,aH p.below B⟩,rfl⟩
theorem jM {g:mF}(h:∃p:dH w,g=p.ww):sI w.heap.size w g:=by
 obtain⟨p,rfl⟩:=h;exact p.below
theorem jC (w:mF):Nonempty (dH w):=⟨⟨w,rN _ _⟩⟩
theorem Bk.cw (h:Bk w k #[x,y] t)(p:dH w):p.ww.cell? ⟨k,0,none⟩=some x:=(h.keep p.below).two.1
theorem Bk.cu (h:Bk w k #[x,y] t)(p:dH w):p.ww.cell? ⟨k,1,none⟩=some y:=(h.keep p.below).two.2.1
theorem cB (g:sI w.heap.size w w1)(h:w.cell? ⟨k,i,none⟩=some v):w1.cell? ⟨k,i,none⟩=some v:=by
 rw[g.cell (p:=⟨k,i,none⟩) (lC h)];exact h
def sP (L:Array Bool):Nat:=L.toList.countP (fun b=>!b)
theorem yQ {L:Array Bool}(h:L[i]?=some false):sP (L.setIfInBounds i true)+1=sP L:=by
 obtain⟨l⟩:=L;simp only[sP,List.setIfInBounds_toArray];simp only[List.getElem?_toArray]at h
 induction l generalizing i with
 | nil=>simp at h
 | cons b l ih=>
  cases i with
  | zero=>simp at h;subst h;simp
  | succ i=>
   have:=ih (i:=i) (by simpa using h);simp only[List.set_cons_succ,List.countP_cons];omega
theorem FW {L:Array Bool}(h:L[i]?=some false):0<sP L:=by have:=yQ h;omega
theorem Ij {P:oO}{A:Region.Mode}{ops:Array qA}(Inv:Array Bool->Act->mF->Prop)
  (hg:∀(i:Nat)(o:qA),ops[i]?=some o->o.guard=none)
  (hs:∀L a w,Inv L a w->L.size=ops.size)
  (hstep:∀L a w (i:Nat) (o:qA),Inv L a w->i∈wH A ops L->ops[i]?=some o->o.wp P a w (fun a' G=>Inv (L.setIfInBounds i true) a' G) Q)
  (hend:∀L a w,Inv L a w->wH A ops L=[]->Q .normal a w):
  ∀(g:Nat)(L:Array Bool)(a:Act)(w:mF),sP L<=g->Inv L a w->wpAny P A ops Q g L a w:=by
 have D:∀L a w i,Inv L a w->i∈wH A ops L->L[i]?=some false:=fun L a w i s hi=>by
  obtain⟨h1,o,ho,_⟩:=mem_ready.1 hi;have F:i<L.size:=by rw[hs L a w s];exact (Array.getElem?_eq_some_iff.1 ho).1
  rw[AT F];simp[F]at h1;rw[h1]
 intro g
 induction g with
 | zero=>
  intro L a w J s;have B:wH A ops L=[]:=by
   cases hr:wH A ops L with
   | nil=>rfl
   | cons i r=>
    have:=FW (D L a w i s (by rw[hr];simp));omega
  exact⟨B,hend L a w s B⟩
 | succ g ih=>
  intro L a w J s;refine⟨fun B=>hend L a w s B,fun i hi=>?_⟩;obtain⟨_,o,ho,_⟩:=mem_ready.1 hi;have h1:=hstep L a w i o s hi ho;have I:wR o (yielded ops a.tmps)=true:=by simp[wR,hg i o ho]
  unfold wpOp;rw[ho];simp only[I,if_true];refine .inl (qA.wp_mono (fun a' G H=>?_) h1);have:=yQ (D L a w i s hi);exact ih _ a' G (by omega) H
theorem BQ (n:Nat):sP (B3 n false)=n:=by
 unfold sP;rw[Array.toList_replicate,List.countP_replicate];simp
theorem j9 {P:oO}{ops:Array qA}{id:Nat}{a:Act}(hm:P.follows .mixedOrders=true)(Inv:Array Bool->Act->mF->Prop)
  (hg:∀(i:Nat)(o:qA),ops[i]?=some o->o.guard=none)
  (hs:∀L a w,Inv L a w->L.size=ops.size)
  (h0:Inv (B3 ops.size false) a w.drew)
  (hstep:∀L a w (i:Nat) (o:qA),Inv L a w->i∈wH .any ops L->ops[i]?=some o->o.wp P a w (fun a' g=>Inv (L.setIfInBounds i true) a' g) Q)
  (hend:∀L a w,Inv L a w->wH .any ops L=[]->Q .normal a w):(Code.region id ops true).wp P Q a w:=
 wp_region_any hm (Ij Inv hg hs hstep hend ops.size _ _ _ (by rw[BQ];exact Nat.le_refl _) h0)
section
variable {K:Type}
def aU [DecidableEq K]:List (K×Int)->K->Int
 | [],_=>0
 | r::l,s=>(if r.1=s then r.2 else 0)+aU l s
def rV (g:K->Int):List (K×Int)->Int
 | []=>0
 | r::l=>r.2*g r.1+rV g l
theorem iQ [DecidableEq K](l m:List (K×Int))(s:K):aU (l++m) s=aU l s+aU m s:=by
 induction l with
 | nil=>simp[aU]
 | cons r l ih=>simp only[fV,aU,ih];omega
theorem kJ [DecidableEq K](l:List (K×Int))(r:K×Int)(s:K):aU (l++[r]) s=aU l s+(if r.1=s then r.2 else 0):=by
 rw[iQ];simp[aU]
theorem Kh [DecidableEq K]{l m:List (K×Int)}(h:l.Perm m)(s:K):aU l s=aU m s:=by
 induction h with
 | nil=>rfl
 | cons x _ ih=>simp only[aU,ih]
 | swap x y l=>simp only[aU];omega
 | trans _ _ h1 h2=>rw[h1,h2]
theorem lD [DecidableEq K]{l:List (K×Int)}{s:K}(h:∀r∈l,r.1≠s):aU l s=0:=by
 induction l with
 | nil=>rfl
 | cons r l ih=>
  simp only[aU];rw[if_neg (h r (by simp)),ih (fun q hq=>h q (by simp[hq]))];rfl
theorem Ey (g:K->Int)(l m:List (K×Int)):rV g (l++m)=rV g l+rV g m:=by
 induction l with
 | nil=>simp[rV]
 | cons r l ih=>simp only[fV,rV,ih];omega
theorem Bb [DecidableEq K](l:List (K×Int))(s:K):aU (l.map fun r=>(r.1,-r.2)) s =-aU l s:=by
 induction l with
 | nil=>rfl
 | cons r l ih=>simp only[List.map_cons,aU,ih];split<;>omega
structure q7 (lt:K->K->Bool):Prop where
 irr:∀a,lt a a=false
 trans:∀a b c,lt a b=true->lt b c=true->lt a c=true
 tri:∀a b,lt a b=false->lt b a=false->a=b
variable {lt:K->K->Bool}
def jX (lt:K->K->Bool)(l:List (K×Int)):Prop:=l.Pairwise fun p q=>lt p.1 q.1=true
def Nz (l:List (K×Int)):Prop:=∀r∈l,r.2≠0
def gG (lt:K->K->Bool)(r:K×Int):List (K×Int)->List (K×Int)
 | []=>[r]
 | x::l=>if lt r.1 x.1 then r::x::l else if lt x.1 r.1 then x::gG lt r l else (r.1,r.2+x.2)::l
theorem Jp [DecidableEq K](O:q7 lt)(r:K×Int)(l:List (K×Int))(s:K):aU (gG lt r l) s=aU l s+(if r.1=s then r.2 else 0):=by
 induction l with
 | nil=>simp[gG,aU]
 | cons x l ih=>
  unfold gG
  by_cases h1:lt r.1 x.1=true
  ·rw[if_pos h1];simp only[aU];omega
  ·rw[if_neg h1]
   by_cases h2:lt x.1 r.1=true
   ·rw[if_pos h2];simp only[aU,ih];omega
   ·rw[if_neg h2];have e:r.1=x.1:=O.tri _ _ (by simpa using h1) (by simpa using h2);simp only[aU,e];split<;>omega
theorem Ds {r:K×Int}{l:List (K×Int)}{q:K×Int}(h:q∈gG lt r l):q.1=r.1\/q∈l:=by
 induction l with
 | nil=>simp[gG]at h;exact .inl (by rw[h])
 | cons x l ih=>
  unfold gG at h
  by_cases h1:lt r.1 x.1=true
  ·rw[if_pos h1]at h
   rcases fH.1 h with rfl|h
   ·exact .inl rfl
   ·exact .inr h
  ·rw[if_neg h1]at h
   by_cases h2:lt x.1 r.1=true
   ·rw[if_pos h2]at h
    rcases fH.1 h with rfl|h
    ·exact .inr (by simp)
    ·rcases ih h with h|h
     ·exact .inl h
     ·exact .inr (by simp[h])
   ·rw[if_neg h2]at h
    rcases fH.1 h with rfl|h
    ·exact .inl rfl
    ·exact .inr (by simp[h])
theorem Jw (O:q7 lt){r:K×Int}{l:List (K×Int)}(h:jX lt l):jX lt (gG lt r l):=by
 induction l with
 | nil=>simp[gG,jX]
 | cons x l ih=>
  obtain⟨hx,hl⟩:=fD.1 h;unfold gG
  by_cases h1:lt r.1 x.1=true
  ·rw[if_pos h1];refine fD.2 ⟨fun q hq=>?_,h⟩
   rcases fH.1 hq with rfl|hq
   ·exact h1
   ·exact O.trans _ _ _ h1 (hx q hq)
  ·rw[if_neg h1]
   by_cases h2:lt x.1 r.1=true
   ·rw[if_pos h2];refine fD.2 ⟨fun q hq=>?_,ih hl⟩
    rcases Ds hq with e|hq
    ·rw[e];exact h2
    ·exact hx q hq
   ·rw[if_neg h2];have e:r.1=x.1:=O.tri _ _ (by simpa using h1) (by simpa using h2);refine fD.2 ⟨fun q hq=>?_,hl⟩
    show lt r.1 q.1=true
    rw[e];exact hx q hq
theorem Kn (lt:K->K->Bool)(r:K×Int)(l:List (K×Int)):(gG lt r l).length<=l.length+1:=by
 induction l with
 | nil=>simp[gG]
 | cons x l ih=>
  unfold gG
  by_cases h1:lt r.1 x.1=true
  ·rw[if_pos h1];simp
  ·rw[if_neg h1]
   by_cases h2:lt x.1 r.1=true
   ·rw[if_pos h2];simp;omega
   ·rw[if_neg h2];simp
def iD (lt:K->K->Bool)(l:List (K×Int)):List (K×Int):=l.foldl (fun m r=>gG lt r m) []
theorem nB (lt:K->K->Bool)(l:List (K×Int))(r:K×Int):iD lt (l++[r])=gG lt r (iD lt l):=by
 unfold iD;rw[List.foldl_append];rfl
theorem rZ {A:Type}{p:List A->Prop}(h0:p [])(h1:∀l r,p l->p (l++[r]))(l:List A):p l:=by
 have:∀m:List A,p m.reverse:=fun m=>by
  induction m with
  | nil=>exact h0
  | cons x m ih=>rw[List.reverse_cons];exact h1 _ _ ih
 have:=this l.reverse
 rwa [List.reverse_reverse]at this
theorem Db [DecidableEq K](O:q7 lt)(l:List (K×Int))(s:K):aU (iD lt l) s=aU l s:=by
 induction l using rZ with
 | h0=>rfl
 | h1 l r ih=>rw[nB,Jp O,ih,kJ]
theorem Dz (O:q7 lt)(l:List (K×Int)):jX lt (iD lt l):=by
 induction l using rZ with
 | h0=>simp[iD,jX]
 | h1 l r ih=>rw[nB];exact Jw O ih
theorem DL (lt:K->K->Bool)(l:List (K×Int)):(iD lt l).length<=l.length:=by
 induction l using rZ with
 | h0=>simp[iD]
 | h1 l r ih=>rw[nB];have:=Kn lt r (iD lt l);simp;omega
theorem LM {l:List (K×Int)}{q:K×Int}(h:q∈iD lt l):∃r∈l,r.1=q.1:=by
 induction l using rZ generalizing q with
 | h0=>simp[iD]at h
 | h1 l r ih=>
  rw[nB]at h
  rcases Ds h with e|h
  ·exact⟨r,by simp,e.symm⟩
  ·obtain⟨g,h1,h2⟩:=ih h;exact⟨g,by simp[h1],h2⟩
def aP (lt:K->K->Bool)(l:List (K×Int)):List (K×Int):=(iD lt l).filter fun r=>decide (r.2≠0)
theorem wE [DecidableEq K](l:List (K×Int))(s:K):aU (l.filter fun r=>decide (r.2≠0)) s=aU l s:=by
 induction l with
 | nil=>rfl
 | cons r l ih=>
  rw[List.filter_cons]
  by_cases h:r.2=0
  ·simp[h,aU];simpa using ih
  ·simp[h,aU];simpa using ih
theorem oY [DecidableEq K](O:q7 lt)(l:List (K×Int))(s:K):aU (aP lt l) s=aU l s:=by
 unfold aP;rw[wE,Db O]
theorem kH (O:q7 lt)(l:List (K×Int)):jX lt (aP lt l):=(Dz O l).filter _
theorem p7 (lt:K->K->Bool)(l:List (K×Int)):Nz (aP lt l):=fun r hr=>by
 have:=(gY.1 hr).2;simpa using this
theorem i6 (lt:K->K->Bool)(l:List (K×Int)):(aP lt l).length<=l.length:=
 Nat.le_trans (List.length_filter_le _ _) (DL lt l)
theorem oR {l:List (K×Int)}{q:K×Int}(h:q∈aP lt l):∃r∈l,r.1=q.1:=LM (gY.1 h).1
theorem qW [DecidableEq K](O:q7 lt){l:List (K×Int)}(h:jX lt l){r:K×Int}(hr:r∈l):aU l r.1=r.2:=by
 induction l with
 | nil=>simp at hr
 | cons x l ih=>
  obtain⟨hx,hl⟩:=fD.1 h;simp only[aU]
  rcases fH.1 hr with rfl|hr
  ·rw[if_pos rfl,lD (fun q hq e=>by have:=hx q hq;rw[e,O.irr]at this;cases this)];omega
  ·rw[if_neg (fun e=>by have:=hx r hr;rw[e,O.irr]at this;cases this),ih hl hr];omega
theorem Bl [DecidableEq K](O:q7 lt){l:List (K×Int)}(h:jX lt l)(hn:Nz l)(r:K×Int):r∈l↔r.2≠0/\aU l r.1=r.2:=by
 constructor
 ·exact fun hr=>⟨hn r hr,qW O h hr⟩
 ·rintro⟨h0,h1⟩
  by_cases hx:∃q∈l,q.1=r.1
  ·obtain⟨q,hq,e⟩:=hx;have:=qW O h hq;rw[e]at this;obtain rfl:q=r:=Prod.ext e (by omega);exact hq
  ·exact absurd (lD fun q hq e=>hx ⟨q,hq,e⟩) (by omega)
theorem yD (O:q7 lt):∀{l m:List (K×Int)},jX lt l->jX lt m->(∀r,r∈l↔r∈m)->l=m
 | [],[],_,_,_=>rfl
 | [],y::m,_,_,h=>by have:=(h y).2 (by simp);simp at this
 | x::l,[],_,_,h=>by have:=(h x).1 (by simp);simp at this
 | x::l,y::m,hl,hm,h=>by
  obtain⟨hx,G⟩:=fD.1 hl;obtain⟨B,F⟩:=fD.1 hm;have g:∀{a b:K×Int},lt a.1 b.1=true->a≠b:=fun {a b} h e=>by rw[e,O.irr]at h;cases h
  have e:x=y:=by
   rcases fH.1 ((h x).1 (by simp)) with e|D
   ·exact e
   ·rcases fH.1 ((h y).2 (by simp)) with e|A
    ·exact e.symm
    ·exact absurd rfl (g (O.trans _ _ _ (hx y A) (B x D)))
  subst e
  congr 1
  refine yD O G F fun r=>⟨fun hr=>?_,fun hr=>?_⟩
  ·rcases fH.1 ((h r).1 (by simp[hr])) with e|s
   ·exact absurd e.symm (g (hx r hr))
   ·exact s
  ·rcases fH.1 ((h r).2 (by simp[hr])) with e|s
   ·exact absurd e.symm (g (B r hr))
   ·exact s
theorem nJ [DecidableEq K](O:q7 lt){l m:List (K×Int)}(hs:jX lt m)(hn:Nz m)(h:∀s,aU m s=aU l s):m=aP lt l:=
 yD O hs (kH O l) fun r=>by
  rw[Bl O hs hn,Bl O (kH O l) (p7 lt l),h,oY O]
theorem vJ [DecidableEq K](O:q7 lt){l m:List (K×Int)}(h:∀s,aU l s=aU m s):aP lt l=aP lt m:=
 nJ O (kH O l) (p7 lt l) fun s=>by rw[oY O,h]
theorem Bw [DecidableEq K](O:q7 lt){l:List (K×Int)}(hs:jX lt l)(hn:Nz l):aP lt l=l:=(nJ O hs hn fun _=>rfl).symm
def aM:List (K×Int)->Int
 | []=>0
 | r::l=>r.2.natAbs+aM l
theorem nE (l:List (K×Int)):0<=aM l:=by
 induction l with
 | nil=>simp[aM]
 | cons r l ih=>simp only[aM];omega
theorem gJ (l m:List (K×Int)):aM (l++m)=aM l+aM m:=by
 induction l with
 | nil=>simp[aM]
 | cons r l ih=>simp only[fV,aM,ih];omega
theorem pC [DecidableEq K](l:List (K×Int))(s:K): -aM l<=aU l s/\aU l s<=aM l:=by
 induction l with
 | nil=>simp[aM,aU]
 | cons r l ih=>have:=nE l;simp only[aM,aU];split<;>omega
theorem lQ {l:List (K×Int)}{c:Int}(h:∀r∈l,-c<=r.2/\r.2<=c):aM l<=c*l.length:=by
 induction l with
 | nil=>simp[aM]
 | cons r l ih=>
  have h1:=h r (by simp);have h2:=ih fun q hq=>h q (by simp[hq]);simp only[aM,List.length_cons];have:c*((l.length+1:Nat):Int)=c*l.length+c:=by rw[Int.natCast_add,Int.mul_add];simp
  omega
theorem LO [DecidableEq K](O:q7 lt){l:List (K×Int)}{r:K×Int}(h:r∈aP lt l): -aM l<=r.2/\r.2<=aM l:=by
 have:=qW O (kH O l) h;rw[oY O]at this;have:=pC l r.1;omega
end
abbrev tv (a b:Int):mJ:= .agg #[.int .i64 a,.int .i64 b]
def cH (n lo hi:Int):Bool:=decide (lo<=n/\n<=hi)
def bH (a b:Int):Bool:=decide (0<=a/\a<=7/\0<=b/\b<=7)
theorem NE (a b:Int):bH a b=(cH a 0 7&&cH b 0 7):=by unfold bH cH;rw[Bool.eq_iff_iff];simp;omega
theorem rQ (n g hi:Int)(w:mF):
  nU gZ 132 #[.int .i64 n,.int .i64 g,.int .i64 hi] w fun e s=>e=.returned (.bool (cH n g hi))/\s=w:=by
 by_cases h1:g<=n
 ·by_cases h2:n<=hi
  ·have e:Hid (cH n g hi=true):=by simp[Hid,cH,h1,h2]
   go_enter lY,lI
   go_wp2
   go_ret;exact⟨rB e.out.symm,rfl⟩
  ·have e:Hid (cH n g hi=false):=by simp[Hid,cH,h2]
   go_enter lY,lI
   go_wp2
   go_ret;exact⟨rB e.out.symm,rfl⟩
 ·have e:Hid (cH n g hi=false):=by simp[Hid,cH,h1]
  go_enter lY,lI
  go_wp2
  go_ret;exact⟨rB e.out.symm,rfl⟩
theorem vU (a b:Int)(w:mF):
  nU gZ 135 #[tv a b] w fun e g=>e=.returned (tv a b)/\g=(w.alloc (.cells #[.int .i64 a,.int .i64 b] 32)).alloc (.cells #[.int .i64 a,.int .i64 b] 154):=by
 go_enter Tryz.func135,Tryz.ntmps135
 go_wp2
 go_returns
 exact⟨rfl,rfl⟩
theorem Hk (a b:Int)(w:mF):
  nU gZ 168 #[tv a b] w fun e g=>e=.returned (tv a b)/\sI w.heap.size w g:=by
 go_enter Tryz.func168,Tryz.ntmps168
 go_wp2
 go_returns
 refine⟨rfl,?_⟩
 go_grown
theorem fC (a b:Int)(w:mF):
  nU gZ 65 #[tv a b] w fun e g=>e=.returned (.bool (bH a b))/\sI w.heap.size w g:=by
 rw[NE];go_enter Tryz.func65,Tryz.ntmps65;cases ha:cH a 0 7
 ·go_wp2_with (go_at_call 132;refine (rQ _ _ _ _).mono ?_;rintro e g ⟨rfl,rfl⟩)
  go_ret;refine⟨rfl,?_⟩
  go_grown
 ·go_wp2_with (go_at_call 132;refine (rQ _ _ _ _).mono ?_;rintro e g ⟨rfl,rfl⟩)
  go_ret;refine⟨rfl,?_⟩
  go_grown
theorem Mf (a b:Int):(∀w:mF,(Instr.index 154 (.agg #[.int .i64 a,.int .i64 b]) (.int .i64 0)).run gZ w=.ok (.int .i64 a) w)/\(∀w:mF,(Instr.index 154 (.agg #[.int .i64 a,.int .i64 b]) (.int .i64 1)).run gZ w=.ok (.int .i64 b) w):=
 ⟨fun _=>by kernel_rfl,fun _=>by kernel_rfl⟩
theorem fB (a b:Int)(w:mF):
  nU gZ 67 #[tv a b] w fun e g=>e=.returned (.bool (bH a b))/\sI w.heap.size w g:=by
 obtain⟨i0,s⟩:=Mf a b;have H:Hid (bH a b=decide (0<=a/\a<=7/\0<=b/\b<=7)):=rfl
 by_cases h1:0<=a
 ·by_cases h2:a<=7
  ·by_cases h3:0<=b
   ·by_cases h4:b<=7
    all_goals
     go_enter kX,jU
     go_wp2
     go_rounds 3
     go_returns
     refine⟨rB (by rw[H.out];simp;omega),?_⟩
     go_grown
   ·go_enter kX,jU
    go_wp2
    go_rounds 3
    go_returns
    refine⟨rB (by rw[H.out];simp;omega),?_⟩
    go_grown
  ·go_enter kX,jU
   go_wp2
   go_rounds 3
   go_returns
   refine⟨rB (by rw[H.out];simp;omega),?_⟩
   go_grown
 ·go_enter kX,jU
  go_wp2
  go_rounds 3
  go_returns
  refine⟨rB (by rw[H.out];simp;omega),?_⟩
  go_grown
attribute [local go_sem ↓] Go.wp_at_zero Go.wp_at_succ
def cV (a b c d:Int):Bool:=bH a b&&bH c d&&decide (a<=c)&&decide (b<=d)
theorem DX (a b c d:Int)(w:mF):
  nU gZ 129 #[tv a b,tv c d] w fun e O=>e=.returned (.bool (cV a b c d))/\sI w.heap.size w O:=by
 have H:Hid (cV a b c d=(bH a b&&bH c d&&decide (a<=c)&&decide (b<=d))):=rfl;cases hs:bH a b
 ·go_enter kR,iC;go_wp2_with fail;refine (fC _ _ _).mono ?_;rintro e w1 ⟨rfl,s⟩;go_wp2_with fail;go_ret;refine⟨rB (by rw[H.out];simp[hs]),?_⟩
  repeat' (first|(with_reducible exact rN _ _)|(with_reducible assumption)|(with_reducible refine aH ?_ (by with_reducible assumption))|(with_reducible refine aG ?_ _)|(with_reducible refine sG ?_)|(with_reducible refine dC ?_ _)|(with_reducible refine sE ?_ ?_ _)|(simp;done)|(simp;omega)|omega)
 ·cases R:bH c d
  ·go_enter kR,iC;go_wp2_with fail;refine (fC _ _ _).mono ?_;rintro e w1 ⟨rfl,s⟩;obtain⟨B,A⟩:=wQ s;obtain⟨G,F,_,_⟩:=A.two;go_wp2_with fail;refine (fC _ _ _).mono ?_;rintro e D ⟨rfl,g⟩;go_wp2_with fail;go_ret;refine⟨rB (by rw[H.out];simp[R]),?_⟩
   repeat' (first|(with_reducible exact rN _ _)|(with_reducible assumption)|(with_reducible refine aH ?_ (by with_reducible assumption))|(with_reducible refine aG ?_ _)|(with_reducible refine sG ?_)|(with_reducible refine dC ?_ _)|(with_reducible refine sE ?_ ?_ _)|(simp;done)|(simp;omega)|omega)
  ·by_cases h1:a<=c
   ·by_cases h2:b<=d
    all_goals
     go_enter kR,iC;go_wp2_with fail;refine (fC _ _ _).mono ?_;rintro e w1 ⟨rfl,s⟩;obtain⟨B,A⟩:=wQ s;obtain⟨s0,s1,_,_⟩:=B.two;obtain⟨G,F,_,_⟩:=A.two;go_wp2_with fail;refine (fC _ _ _).mono ?_;rintro e D ⟨rfl,g⟩;obtain⟨N,M,_,_⟩:=(B.keep g).two;obtain⟨J,I,_,_⟩:=(A.keep g).two;go_wp2_with fail;go_ret;refine⟨rB (by rw[H.out];simp[*]),?_⟩
     repeat' (first|(with_reducible exact rN _ _)|(with_reducible assumption)|(with_reducible refine aH ?_ (by with_reducible assumption))|(with_reducible refine aG ?_ _)|(with_reducible refine sG ?_)|(with_reducible refine dC ?_ _)|(with_reducible refine sE ?_ ?_ _)|(simp;done)|(simp;omega)|omega)
   ·go_enter kR,iC;go_wp2_with fail;refine (fC _ _ _).mono ?_;rintro e w1 ⟨rfl,s⟩;obtain⟨B,A⟩:=wQ s;obtain⟨s0,s1,_,_⟩:=B.two;obtain⟨G,F,_,_⟩:=A.two;go_wp2_with fail;refine (fC _ _ _).mono ?_;rintro e D ⟨rfl,g⟩;obtain⟨N,M,_,_⟩:=(B.keep g).two;obtain⟨J,I,_,_⟩:=(A.keep g).two;go_wp2_with fail;go_ret;refine⟨rB (by rw[H.out];simp;omega),?_⟩
    repeat' (first|(with_reducible exact rN _ _)|(with_reducible assumption)|(with_reducible refine aH ?_ (by with_reducible assumption))|(with_reducible refine aG ?_ _)|(with_reducible refine sG ?_)|(with_reducible refine dC ?_ _)|(with_reducible refine sE ?_ ?_ _)|(simp;done)|(simp;omega)|omega)
end Go.Proofs.YtbdpcngcbnoioaaGreatDoor
