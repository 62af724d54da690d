import Derived.Test.YtbdpcngcbnoioaaGreatDoorGa6
import Derived.Deep.Cut
import Derived.Deep.Strs
set_option maxHeartbeats 4000000
namespace Go.Proofs.YtbdpcngcbnoioaaGreatDoor
open _root_.List renaming getElem?_eq_getElem->fD,all_eq_true->fH,getElem?_eq_some_iff->fV,getElem?_take->gY,flatMap_cons->gZ,eq_nil_of_length_eq_zero->iC,pairwise_iff_getElem->jU,mem_of_getElem?->kR,getElem_of_mem->kX,range->lI
open Go.Proofs.Tryz renaming prog->lY,ntmps194->mF,ntmps186->mJ,ntmps154->nU,func194->oJ,func186->oO,func154->qA,ntmps133->rN,ntmps86->sE,func133->sG,func86->sH
open Go renaming Value->sI,World->wH,Calls->wR,lt_of_block->AT
open _root_.Bool renaming and_eq_true->B3,eq_false_iff->BK
open Go.RowKit renaming Below->E0
open Go.RowKit.Below renaming refl->EJ,setCell->Ga,drew->Lx
open _root_.Nat renaming add_mul->Md,zero_add->Nh,mul_le_mul_right->Ov,mul_comm->Oz
open Go.Value renaming ownBlock->P1
variable {B g j k n:Nat}{a b:Int}{r:Bool}{t:TypeId}{v x0 x1 x2:sI}{w w1:wH}{xs:List sI}
abbrev Sp:=(Int×Int)×(Int×Int)
abbrev Rw:=Sp×Int
abbrev It:=(Int×Int)×Int
def cO (s t:Int×Int):Bool:=decide (s.1<t.1\/(s.1=t.1/\s.2<t.2))
def aQ (s t:Sp):Bool:=cO s.1 t.1||(decide (s.1=t.1)&&cO s.2 t.2)
theorem eI:q7 cO where
 irr a:=by simp[cO]
 trans a b c h1 h2:=by simp[cO]at *;omega
 tri a b h1 h2:=by simp[cO]at *;exact Prod.ext (by omega) (by omega)
theorem uM (s t:Sp):aQ s t=true↔s.1.1<t.1.1\/(s.1.1=t.1.1/\(s.1.2<t.1.2\/(s.1.2=t.1.2/\(s.2.1<t.2.1\/(s.2.1=t.2.1/\s.2.2<t.2.2))))):=by
 simp only[aQ,cO,Bool.or_eq_true,B3,decide_eq_true_eq,Prod.ext_iff];omega
theorem eE:q7 aQ where
 irr a:=by rw[BK,Ne,uM];omega
 trans a b c h1 h2:=by rw[uM]at *;omega
 tri a b h1 h2:=by
  rw[BK,Ne,uM]at h1 h2;exact Prod.ext (Prod.ext (by omega) (by omega)) (Prod.ext (by omega) (by omega))
def wO (s t:Int×Int):Int:=if cO s t then -1 else if cO t s then 1 else 0
def iI (s t:Sp):Int:=if aQ s t then -1 else if aQ t s then 1 else 0
theorem yJ (s t:Sp):decide (iI s t<0)=aQ s t:=by
 unfold iI;cases h1:aQ s t<;>cases h2:aQ t s<;>simp
theorem Ml (s t:Sp):decide (0<iI s t)=aQ t s:=by
 unfold iI;cases h1:aQ s t<;>cases h2:aQ t s<;>simp;have:=eE.trans _ _ _ h1 h2;rw[eE.irr]at this;cases this
theorem GD (s t:Int×Int):decide (wO s t<0)=cO s t:=by
 unfold wO;cases h1:cO s t<;>cases h2:cO t s<;>simp
def cU (r:Rw):Bool:=cH r.1.1.1 0 3&&cH r.1.1.2 0 99&&bH r.1.2.1 r.1.2.2&&cH r.2 (-99999) 99999
def aR (l:List Rw):Bool:=decide (l.length<=400)&&l.all cU
theorem fP {l:List Rw}(h:aR l=true):l.length<=400:=by simp[aR]at h;exact h.1
theorem eY {l:List Rw}(h:aR l=true){r:Rw}(hr:r∈l):cU r=true:=by
 simp only[aR,B3,fH]at h;exact h.2 r hr
theorem xY {l:List Rw}(h:l.length<=400)(ha:∀r∈l,cU r=true):aR l=true:=by
 simp only[aR,B3,fH,decide_eq_true_eq];exact⟨h,ha⟩
theorem mP {l:List Rw}{r:Rw}(hr:r∈l)(h:cU r=false):aR l=false:=by
 rw[BK];intro e;rw[eY e hr]at h;cases h
theorem Dm {l:List Rw}(h:400<l.length):aR l=false:=by simp[aR];omega
theorem qY {r:Rw}(h:cU r=true):bH r.1.2.1 r.1.2.2=true:=by simp[cU]at h;exact h.1.2
theorem lG {r:Rw}(h:cU r=true): -99999<=r.2/\r.2<=99999:=by simp[cU,cH]at h;exact h.2
def fZ (l:List Rw)(i:Nat):Bool:=
 match l[i]? with
 | none=>true
 | some r=>decide (r.2≠0)&&(match i with|0=>true|j+1=>match l[j]? with|none=>true|some q=>aQ q.1 r.1)
def aZ (l:List Rw):Bool:=aR l&&(lI l.length).all (fZ l)
theorem j7 {l:List Rw}(h:aZ l=true):aR l=true:=by simp[aZ]at h;exact h.1
theorem Dw {l:List Rw}(h:aR l=false):aZ l=false:=by simp[aZ,h]
theorem Jn {l:List Rw}{i:Nat}(hi:i<l.length)(h:fZ l i=false):aZ l=false:=by
 unfold aZ;have:(lI l.length).all (fZ l)=false:=by
  rw[List.all_eq_false];exact⟨i,by simpa using hi,by simp[h]⟩
 rw[this,Bool.and_false]
theorem Dk {l:List Rw}(h:aR l=true)(ha:∀i,i<l.length->fZ l i=true):aZ l=true:=by
 unfold aZ;rw[h,Bool.true_and,fH];intro j s;exact ha j (by simpa using s)
theorem tM {l:List Rw}{r:Rw}(h:l[0]?=some r):fZ l 0=decide (r.2≠0):=by unfold fZ;rw[h];simp
theorem qS {l:List Rw}{r q:Rw}(h:l[j+1]?=some r)(s:l[j]?=some q):fZ l (j+1)=(decide (r.2≠0)&&aQ q.1 r.1):=by
 unfold fZ;rw[h];simp[s]
theorem B6 {l:List Rw}(h:aZ l=true):Nz l:=fun r hr=>by
 obtain⟨i,hi,e⟩:=kX hr;simp only[aZ,B3,fH]at h;have:=h.2 i (by simpa using hi);unfold fZ at this;rw[fD hi,e]at this;simp at this;exact this.1
theorem DR {l:List Rw}(h:∀i r q,l[i+1]?=some r->l[i]?=some q->aQ q.1 r.1=true):jX aQ l:=by
 have key:∀d i (h1:i+d+1<l.length),aQ (l[i]'(by omega)).1 l[i+d+1].1=true:=by
  intro d
  induction d with
  | zero=>intro i h1;exact h i _ _ (fD h1) (fD (by omega))
  | succ d ih=>
   intro i h1;exact eE.trans _ _ _ (ih i (by omega)) (h (i+d+1) _ _ (fD (by omega)) (fD (by omega)))
 refine jU.2 fun i j hi s A=>?_;obtain⟨d,rfl⟩:∃d,j=i+d+1:=⟨j-i-1,by omega⟩;exact key d i s
theorem yE {l:List Rw}(h:aZ l=true):jX aQ l:=DR fun i r q h1 h2=>by
 simp only[aZ,B3,fH]at h;have:=h.2 (i+1) (by simpa using (fV.1 h1).1);rw[qS h1 h2]at this;simp at this;exact this.2
theorem IV {l:List Rw}(h:aR l=true)(hn:Nz l)(hs:jX aQ l):aZ l=true:=Dk h fun i hi=>by
 have hr:=fD hi;have h0:=hn _ (List.getElem_mem hi)
 match i,hi,hr,h0 with
 | 0,hi,hr,h0=>rw[tM hr];simpa using h0
 | j+1,hi,hr,h0=>
  have hq:=fD (l:=l) (i:=j) (by omega);rw[qS hr hq,B3];exact⟨by simpa using h0,jU.1 hs j (j+1) (by omega) hi (by omega)⟩
theorem Ms (l:List Rw):aZ (aP aQ l)=aR (aP aQ l):=by
 cases h:aR (aP aQ l)
 ·exact Dw h
 ·exact IV h (p7 _ _) (kH eE _)
def jQ (l:List Rw):List Rw:=if aZ l then l else []
def iW (l:List Rw):List Rw:=jQ (aP aQ l)
def iT (l:List Rw):List Rw:=if aR l then iW l else []
def iY (a b:List Rw):List Rw:=if aR a&&aR b then iW (a++b) else []
def dY (l:List Rw):List Rw:=l.map fun r=>(r.1,-r.2)
def dA (l:List Rw):List Rw:=if aR l then iW (dY l) else []
def cX (l:List Rw)(x y:Int):List It:=(l.filter fun r=>cV r.1.2.1 r.1.2.2 x y).map fun r=>(r.1.1,r.2)
def bL (l:List Rw)(x y:Int):List It:=if aR l&&bH x y then aP cO (cX l x y) else []
theorem MY:aR []=true:=by decide
theorem yP:aZ []=true:=by decide
theorem Mk (l:List Rw):aZ (jQ l)=true:=by
 unfold jQ;split
 ·assumption
 ·exact yP
theorem NO {l:List Rw}(h:aZ l=true):jQ l=l:=by simp[jQ,h]
theorem Fq (l:List Rw):iW l=if aR (aP aQ l) then aP aQ l else []:=by unfold iW jQ;rw[Ms]
theorem BO {l:List Rw}(h:aR (aP aQ l)=true):iW l=aP aQ l:=by rw[Fq,if_pos h]
theorem M5 {l:List Rw}(h:aR (aP aQ l)=false):iW l=[]:=by rw[Fq];simp[h]
theorem A6 (l:List Rw):aZ (iW l)=true:=Mk _
theorem LQ (l:List Rw):(iW l).length<=l.length:=by
 unfold iW jQ;split
 ·exact i6 _ _
 ·simp
theorem CR (l:List Rw):(iW l).length<=400:=fP (j7 (A6 l))
theorem CI (l:List Rw):aZ (iT l)=true:=by
 unfold iT;split
 ·exact A6 l
 ·exact yP
theorem KB {r:Rw}(h:cU r=true):cH r.1.1.1 0 3=true/\cH r.1.1.2 0 99=true/\bH r.1.2.1 r.1.2.2=true:=by
 simp only[cU,B3]at h;exact⟨h.1.1.1,h.1.1.2,h.1.2⟩
open Go.RowKit
section
variable {α:Type}
theorem lX {enc:α->List sI}(s:∀x,(enc x).length=k)(l:List α):(l.flatMap enc).length=l.length*k:=by
 induction l with
 | nil=>simp
 | cons x l ih=>rw[gZ,List.length_append,s,ih,List.length_cons,Md];omega
theorem rI {enc:α->List sI}(s:∀x,(enc x).length=k)(l:List α){i:Nat}{x:α}(h:l[i]?=some x)(A:j<k):(l.flatMap enc)[i*k+j]?=(enc x)[j]?:=by
 induction l generalizing i with
 | nil=>simp at h
 | cons y l ih=>
  cases i with
  | zero=>
   simp at h;subst h;rw[gZ,Nat.zero_mul,Nh,List.getElem?_append_left (by rw[s];exact A)]
  | succ i=>
   have:=ih (i:=i) (by simpa using h);rw[gZ,List.getElem?_append_right (by rw[s,Md];omega),s,<-this]
   congr 1
   rw[Md];omega
def tY (enc:α->List sI)(k:Nat)(w:wH)(v:sI)(l:List α):Prop:=
 ∃a cap,v=.slice a l.length cap/\l.length<=cap/\cap<=maxLen/\l.length<=2097152/\∀i x,l[i]?=some x->∃g off,a=some ⟨g,off,none⟩/\g<w.heap.size/\∀j,j<k->w.cell? ⟨g,off+i*k+j,none⟩=(enc x)[j]?
theorem tY.keep {enc:α->List sI}{l:List α}(h:tY enc k w v l)(s:E0 w.heap.size w w1):tY enc k w1 v l:=by
 obtain⟨a,A,rfl,h1,h2,h3,h4⟩:=h;refine⟨a,A,rfl,h1,h2,h3,fun i x hi=>?_⟩;obtain⟨g,off,rfl,hg,c⟩:=h4 i x hi;exact⟨g,off,rfl,Nat.lt_of_lt_of_le hg s.size,fun j D=>by rw[s.cell (p:=⟨g,_,none⟩) hg];exact c j D⟩
def j6 (enc:α->List sI)(k:Nat)(c:Array sI)(l:List α)(n:Nat):Prop:=∀i x,i<n->l[i]?=some x->∀j,j<k->c[i*k+j]?=(enc x)[j]?
theorem tY.cY {enc:α->List sI}{s:Nat}{c:Array sI}{l:List α}(h:Bk w g c t)(hf:j6 enc k c l l.length)(F:∀x,(enc x).length=k)(G:l.length<=s)(hm:s<=maxLen)(hn:l.length<=2097152):
  tY enc k w (.slice (some ⟨g,0,none⟩) l.length s) l:=by
 refine⟨_,s,rfl,G,hm,hn,fun i x hi=>⟨g,0,rfl,h.lt,fun j D=>?_⟩⟩;have e:=hf i x (fV.1 hi).1 hi j D;have A:j<(enc x).length:=by rw[F];exact D
 rw[Nh,fD A];rw[fD A]at e;exact h.cell e
abbrev pB (enc:α->List sI)(k:Nat)(t:TypeId)(w:wH)(B:Nat)(v:sI)(l:List α):Prop:=w.ownsRow B t k v l.length (l.flatMap enc)
theorem yC {enc:α->List sI}{l:List α}(h:pB enc k t w B v l)(D:∀x,(enc x).length=k)(hl:l.length<=2097152):tY enc k w v l:=by
 have G:=h;obtain⟨_,h2⟩:=h
 rcases h2 with⟨rfl,h0⟩|⟨g,A,J,rfl,hg,I,H,hm,_,_⟩
 ·have:l=[]:=iC h0;subst this;exact⟨none,0,rfl,Nat.le_refl _,by unfold maxLen;omega,by simp,fun i x hi=>by simp at hi⟩
 ·refine⟨_,A,rfl,H,hm,hl,fun i x hi=>⟨g,0,rfl,AT I,fun j F=>?_⟩⟩;have s:=(fV.1 hi).1;have:i*k+j<l.length*k:=by
   have:(i+1)*k<=l.length*k:=Ov k s;rw[Md]at this;omega
  rw[Nh,G.cellAt _ this,rI D l hi F]
theorem oN (enc:α->List sI)(k:Nat)(t:TypeId)(w:wH)(B:Nat):pB enc k t w B (.slice none 0 0) []:=⟨by simp,.inl ⟨rfl,rfl⟩⟩
theorem xM {enc:α->List sI}{s:Nat}{c:Array sI}{l:List α}(h:Bk w g c t)(hf:j6 enc k c l l.length)(A:∀x,(enc x).length=k)(hs:c.size=s*k)(F:l.length<=s)(hm:s<=maxLen)(hg:B<=g):
  pB enc k t w B (.slice (some ⟨g,0,none⟩) l.length s) l:=by
 refine⟨lX A l,.inr ⟨g,s,c,rfl,hg,h,F,hm,hs,?_⟩⟩
 apply List.ext_getElem?
 intro i
 by_cases hi:i<l.length*k
 ·have D:0<k:=by
   rcases Nat.eq_zero_or_pos k with e|e
   ·subst e;omega
   ·exact e
  rw[gY,if_pos hi,Array.getElem?_toList];have e:i=i / k*k+i%k:=by rw[Oz];exact (Nat.div_add_mod i k).symm
  have hq:i / k<l.length:=Nat.div_lt_of_lt_mul (by rw[Oz];exact hi);have hr:i%k<k:=Nat.mod_lt _ D;rw[e,hf _ _ hq (fD hq) _ hr,rI A l (fD hq) hr]
 ·rw[gY,if_neg hi,List.getElem?_eq_none (by rw[lX A];omega)]
theorem gE {enc:α->List sI}{l:List α}(h:pB enc k t w B v l)(F:∀x,(enc x).length=k):(v=.slice none 0 0/\l=[]) \/
  ∃g s c,v=.slice (some ⟨g,0,none⟩) l.length s/\B<=g/\Bk w g c t/\c.size=s*k/\l.length<=s/\s<=maxLen/\j6 enc k c l l.length:=by
 obtain⟨h1,⟨rfl,h2⟩|⟨g,s,A,rfl,hg,H,I,hm,hs,D⟩⟩:=h
 ·exact .inl ⟨rfl,iC h2⟩
 ·refine .inr ⟨g,s,A,rfl,hg,H,hs,I,hm,fun i x hi hx j G=>?_⟩;have:i*k+j<l.length*k:=by
   have:(i+1)*k<=l.length*k:=Ov k hi;rw[Md]at this;omega
  rw[<- rI F l hx G,<-D,gY,if_pos this,Array.getElem?_toList]
theorem dF (h:w.ownsRow B t k v n xs)(D:∀b,v.ownBlock=some b->w1.heap[b]?=w.heap[b]?):w1.ownsRow B t k v n xs:=by
 obtain⟨h1,h2⟩:=h;refine⟨h1,?_⟩
 rcases h2 with h2|⟨g,A,s,rfl,hg,F,r⟩
 ·exact .inl h2
 ·exact .inr ⟨g,A,s,rfl,hg,by rw[D g (by simp[P1])];exact F,r⟩
theorem oT (h:w.ownsRow B t k v n xs)(b:Nat)(e:v.ownBlock=some b):b<w.heap.size:=by
 obtain⟨h1,⟨rfl,h2⟩|⟨g,D,A,rfl,hg,s,_⟩⟩:=h
 ·simp[P1]at e
 ·simp[P1]at e;subst e;exact AT s
theorem oB (h:w.ownsRow B t k v n xs)(b:Nat)(e:v.ownBlock=some b):B<=b:=by
 obtain⟨h1,⟨rfl,h2⟩|⟨g,A,s,rfl,hg,D,_⟩⟩:=h
 ·simp[P1]at e
 ·simp[P1]at e;subst e;exact hg
theorem zO (h:w.ownsRow B t k v n xs)(A:Bx g w w1)(s:∀b,v.ownBlock=some b->b≠g):w1.ownsRow B t k v n xs:=
 dF h fun b e=>A.block b (oT h b e) (s b e)
end
abbrev fX (r:Rw):List sI:=[.int .i64 r.1.1.1,.int .i64 r.1.1.2,.int .i64 r.1.2.1,.int .i64 r.1.2.2,.int .i64 r.2]
abbrev rJ (r:It):List sI:=[.int .i64 r.1.1,.int .i64 r.1.2,.int .i64 r.2]
abbrev rv (k v a b d:Int):sI:= .agg #[.int .i64 k,.int .i64 v,.int .i64 a,.int .i64 b,.int .i64 d]
abbrev iv (k v d:Int):sI:= .agg #[.int .i64 k,.int .i64 v,.int .i64 d]
theorem jD (x:Rw):(fX x).length=5:=rfl
theorem yH (x:It):(rJ x).length=3:=rfl
abbrev Rs (w:wH)(v:sI)(l:List Rw):Prop:=tY fX 5 w v l
abbrev Is (w:wH)(v:sI)(l:List It):Prop:=tY rJ 3 w v l
abbrev aD (w:wH)(B:Nat)(v:sI)(l:List Rw):Prop:=pB fX 5 55 w B v l
abbrev bZ (w:wH)(B:Nat)(v:sI)(l:List It):Prop:=pB rJ 3 98 w B v l
theorem aD.rs {l:List Rw}(h:aD w B v l)(hl:l.length<=2097152):Rs w v l:=yC h jD hl
theorem bZ.is {l:List It}(h:bZ w B v l)(hl:l.length<=2097152):Is w v l:=yC h yH hl
theorem Rs.open {l:List Rw}(h:Rs w v l):∃a s,v=.slice a l.length s/\l.length<=s/\s<=maxLen/\l.length<=2097152 /\
  ∀i,i<l.length->∃g off K V A B D,a=some ⟨g,off,none⟩/\g<w.heap.size/\l[i]?=some (((K,V),(A,B)),D)/\w.cell? ⟨g,off+i*5,none⟩=some (.int .i64 K)/\w.cell? ⟨g,off+i*5+1,none⟩=some (.int .i64 V) /\
   w.cell? ⟨g,off+i*5+2,none⟩=some (.int .i64 A)/\w.cell? ⟨g,off+i*5+3,none⟩=some (.int .i64 B)/\w.cell? ⟨g,off+i*5+4,none⟩=some (.int .i64 D):=by
 obtain⟨a,s,h0,h1,h2,h3,h4⟩:=h;refine⟨a,s,h0,h1,h2,h3,fun i hi=>?_⟩;obtain⟨g,off,ha,hg,c⟩:=h4 i l[i] (fD hi);exact⟨g,off,_,_,_,_,_,ha,hg,fD hi,c 0 (by omega),c 1 (by omega),c 2 (by omega),c 3 (by omega),c 4 (by omega)⟩
theorem Is.open {l:List It}(h:Is w v l):∃a s,v=.slice a l.length s/\l.length<=s/\s<=maxLen/\l.length<=2097152 /\
  ∀i,i<l.length->∃g off K V D,a=some ⟨g,off,none⟩/\g<w.heap.size/\l[i]?=some ((K,V),D)/\w.cell? ⟨g,off+i*3,none⟩=some (.int .i64 K)/\w.cell? ⟨g,off+i*3+1,none⟩=some (.int .i64 V)/\w.cell? ⟨g,off+i*3+2,none⟩=some (.int .i64 D):=by
 obtain⟨a,s,h0,h1,h2,h3,h4⟩:=h;refine⟨a,s,h0,h1,h2,h3,fun i hi=>?_⟩;obtain⟨g,off,ha,hg,c⟩:=h4 i l[i] (fD hi);exact⟨g,off,_,_,_,ha,hg,fD hi,c 0 (by omega),c 1 (by omega),c 2 (by omega)⟩
theorem Bk.aa {A s:sI}(h:Bk w k #[x0,x1,x2,A,s] t):
  w.cell? ⟨k,0,none⟩=some x0/\w.cell? ⟨k,1,none⟩=some x1/\w.cell? ⟨k,2,none⟩=some x2/\w.cell? ⟨k,3,none⟩=some A/\w.cell? ⟨k,4,none⟩=some s:=by
 unfold Bk at h;simp[wH.cell?,h]
theorem Bk.three (h:Bk w k #[x0,x1,x2] t):
  w.cell? ⟨k,0,none⟩=some x0/\w.cell? ⟨k,1,none⟩=some x1/\w.cell? ⟨k,2,none⟩=some x2:=by
 unfold Bk at h;simp[wH.cell?,h]
theorem p8 {n s hi:Int}(h:cH n s hi=r)(w:wH):wR lY 132 #[.int .i64 n,.int .i64 s,.int .i64 hi] w fun e A=>e=.returned (.bool r)/\A=w:=by
 rw[<- h];exact rQ n s hi w
theorem wI (h:bH a b=r)(w:wH):wR lY 67 #[tv a b] w fun e s=>e=.returned (.bool r)/\E0 w.heap.size w s:=by
 rw[<- h];exact fB a b w
theorem FT (k v a b d:Int)(w:wH):
  wR lY 186 #[rv k v a b d] w fun e D=>e=.returned (.bool (cU (((k,v),(a,b)),d)))/\E0 w.heap.size w D:=by
 have H:Hid (cU (((k,v),(a,b)),d)=(cH k 0 3&&cH v 0 99&&bH a b&&cH d (-99999) 99999)):=rfl;have bk:=Bk.new (w:=w) #[.int .i64 k,.int .i64 v,.int .i64 a,.int .i64 b,.int .i64 d] 55 rfl;have A:E0 w.heap.size w (w.alloc (.cells #[.int .i64 k,.int .i64 v,.int .i64 a,.int .i64 b,.int .i64 d] 55)):=aG (EJ _ _) _;cases h1:cH k 0 3
 ·go_enter oO,mJ
  go_wp2_with (go_at_call 132;refine (p8 (by with_reducible assumption) _).mono ?_;rintro e D ⟨rfl,rfl⟩)
  go_ret;exact⟨rB (by rw[H.out,h1];rfl),A⟩
 cases h2:cH v 0 99
 ·go_enter oO,mJ
  go_wp2_with (go_at_call 132;refine (p8 (by with_reducible assumption) _).mono ?_;rintro e D ⟨rfl,rfl⟩)
  go_ret;exact⟨rB (by rw[H.out,h1,h2];rfl),A⟩
 cases h3:bH a b
 ·go_enter oO,mJ
  go_wp2_with (first|(go_at_call 132;refine (p8 (by with_reducible assumption) _).mono ?_;rintro e D ⟨rfl,rfl⟩)|(go_at_call 65;refine (kA (by with_reducible assumption) _).mono ?_;rintro e w1 ⟨rfl,s⟩))
  go_ret;exact⟨rB (by rw[H.out,h1,h2,h3];rfl),aH A s⟩
 cases h4:cH d (-99999) 99999
 all_goals
  go_enter oO,mJ
  go_wp2_with (first|(go_at_call 132;refine (p8 (by with_reducible assumption) _).mono ?_;rintro e D ⟨rfl,rfl⟩)|(go_at_call 65;refine (kA (by with_reducible assumption) _).mono ?_;rintro e w1 ⟨rfl,s⟩;obtain⟨L,J,I,G,F⟩:=(bk.keep s).aa))
  go_ret;exact⟨rB (by rw[H.out,h1,h2,h3,h4];rfl),aH A s⟩
theorem Ao {k v d:Int}(h:cU (((k,v),(a,b)),d)=r)(w:wH):wR lY 186 #[rv k v a b d] w fun e s=>e=.returned (.bool r)/\E0 w.heap.size w s:=by
 rw[<- h];exact FT k v a b d w
theorem Ew (k v:Int)(w:wH):wR lY 194 #[.int .i64 k,.int .i64 v] w fun e D=>e=.returned (.bool (cH k 0 3&&cH v 0 99))/\D=w:=by
 have A:Hid (cH k 0 3=decide (0<=k/\k<=3)):=rfl;have s:Hid (cH v 0 99=decide (0<=v/\v<=99)):=rfl
 by_cases h1:0<=k
 ·by_cases h2:k<4
  ·by_cases h3:0<=v
   ·by_cases h4:v<100
    all_goals
     go_enter oJ,mF;go_wp2_with fail;go_ret;exact⟨rB (by rw[A.out,s.out];simp;omega),rfl⟩
   ·go_enter oJ,mF;go_wp2_with fail;go_ret;exact⟨rB (by rw[A.out,s.out];simp;omega),rfl⟩
  ·go_enter oJ,mF;go_wp2_with fail;go_ret;exact⟨rB (by rw[A.out,s.out];simp;omega),rfl⟩
 ·go_enter oJ,mF;go_wp2_with fail;go_ret;exact⟨rB (by rw[A.out,s.out];simp;omega),rfl⟩
theorem k8 {k v:Int}(h:(cH k 0 3&&cH v 0 99)=r)(w:wH):wR lY 194 #[.int .i64 k,.int .i64 v] w fun e s=>e=.returned (.bool r)/\s=w:=by
 rw[<- h];exact Ew k v w
theorem Ex (k v a b d:Int)(w:wH):
  wR lY 154 #[rv k v a b d] w fun e D=>e=.returned (.bool (cU (((k,v),(a,b)),d)))/\E0 w.heap.size w D:=by
 have H:Hid (cU (((k,v),(a,b)),d)=(cH k 0 3&&cH v 0 99&&bH a b&&decide (-99999<=d/\d<=99999))):=rfl;have bk:=Bk.new (w:=w) #[.int .i64 k,.int .i64 v,.int .i64 a,.int .i64 b,.int .i64 d] 55 rfl;have A:E0 w.heap.size w (w.alloc (.cells #[.int .i64 k,.int .i64 v,.int .i64 a,.int .i64 b,.int .i64 d] 55)):=aG (EJ _ _) _;cases h1:(cH k 0 3&&cH v 0 99)
 ·go_enter qA,nU
  go_wp2_with (go_at_call 194;refine (k8 (by with_reducible assumption) _).mono ?_;rintro e D ⟨rfl,rfl⟩)
  go_ret;exact⟨rB (by rw[H.out,h1];rfl),A⟩
 cases h3:bH a b
 ·go_enter qA,nU
  go_wp2_with (first|(go_at_call 194;refine (k8 (by with_reducible assumption) _).mono ?_;rintro e D ⟨rfl,rfl⟩)|(go_at_call 67;refine (wI (by with_reducible assumption) _).mono ?_;rintro e w1 ⟨rfl,s⟩))
  go_ret;exact⟨rB (by rw[H.out,h1,h3];rfl),aH A s⟩
 by_cases h4: -99999<=d
 ·by_cases h5:d<=99999
  all_goals
   go_enter qA,nU
   go_wp2_with (first|(go_at_call 194;refine (k8 (by with_reducible assumption) _).mono ?_;rintro e D ⟨rfl,rfl⟩)|(go_at_call 67;refine (wI (by with_reducible assumption) _).mono ?_;rintro e w1 ⟨rfl,s⟩;obtain⟨L,J,I,G,F⟩:=(bk.keep s).aa))
   go_ret;exact⟨rB (by rw[H.out,h1,h3];simp;omega),aH A s⟩
 ·go_enter qA,nU
  go_wp2_with (first|(go_at_call 194;refine (k8 (by with_reducible assumption) _).mono ?_;rintro e D ⟨rfl,rfl⟩)|(go_at_call 67;refine (wI (by with_reducible assumption) _).mono ?_;rintro e w1 ⟨rfl,s⟩;obtain⟨L,J,I,G,F⟩:=(bk.keep s).aa))
  go_ret;exact⟨rB (by rw[H.out,h1,h3];simp;omega),aH A s⟩
theorem Aj {k v d:Int}(h:cU (((k,v),(a,b)),d)=r)(w:wH):wR lY 154 #[rv k v a b d] w fun e s=>e=.returned (.bool r)/\E0 w.heap.size w s:=by
 rw[<- h];exact Ex k v a b d w
theorem FX {l:List Rw}(h:l.length<=400)(ha:∀j r,j<l.length->l[j]?=some r->cU r=true):aR l=true:=
 xY h fun r hr=>by
  obtain⟨i,hi,e⟩:=kX hr;exact ha i r hi (by rw[fD hi,e])
theorem D7 {l:List Rw}{q:Rw}(h:∀j r,j<k->l[j]?=some r->cU r=true)(hq:l[k]?=some q)(s:cU q=true){r:Rw}(A:j<k+1)(hr:l[j]?=some r):cU r=true:=by
 by_cases e:j=k
 ·subst e;rw[hq]at hr;cases hr;exact s
 ·exact h j r (by omega) hr
theorem BN (v:sI)(l:List Rw)(w:wH)(h:Rs w v l):
  wR lY 133 #[v] w fun e T=>e=.returned (.bool (aR l))/\E0 w.heap.size w T:=by
 obtain⟨a,W,rfl,Z,hm,hn,s⟩:=Rs.open h;unfold maxLen at hm;have U:=(show Hid _ from s);clear s h
 by_cases J:400<l.length
 ·have I:Hid (aR l=false):=Dm J;have N:decide ((l.length:Int)>400)=true:=by simp;omega
  go_enter sG,rN;go_wp2_with fail;go_ret;exact⟨rB I.out.symm,EJ _ _⟩
 have N:decide ((l.length:Int)>400)=false:=by simp;omega
 go_enter sG,rN;go_wp2_with fail
 go_loopw [3] (fun i wr=>∃k:Nat,k<=l.length/\i=.int .i64 k/\(∀j r,j<k->l[j]?=some r->cU r=true)/\E0 w.heap.size w wr) (fun i _=>l.length-(intOf i).toNat)
 case atStart=>exact⟨0,by omega,rfl,fun j r L=>by omega,EJ _ _⟩
 case round=>
  obtain⟨k,Y,rfl,H,F⟩:=hrel;have S:=(show Hid _ from H);clear H
  by_cases M:k<l.length
  ·obtain⟨g,off,K,V,A,B,D,rfl,hg,hr,Q,c1,c2,c3,c4⟩:=U.out k M;have d0:=cB F Q;have d1:=cB F c1;have d2:=cB F c2;have d3:=cB F c3;have d4:=cB F c4;have R:=(show Hid _ from hr);clear Q c1 c2 c3 c4 hr;cases ho:cU (((K,V),(A,B)),D)
   ·have I:Hid (aR l=false):=mP (kR R.out) ho;go_wp2_with fail;refine (Ao ho _).mono ?_;rintro e w1 ⟨rfl,G⟩;go_wp2_with fail;go_ret;exact⟨rB I.out.symm,aH F G⟩
   ·go_wp2_with fail;refine (Ao ho _).mono ?_;rintro e w1 ⟨rfl,G⟩;have O:=aH F G;go_wp2_with fail;go_roundw
    case rel=>exact⟨k+1,by omega,by go_num,fun j r L hr=>D7 S.out R.out ho L hr,O⟩
    case measure=>simp[intOf];omega
  ·have I:Hid (aR l=true):=FX (by omega) fun j r L hr=>S.out j r (by omega) hr;go_wp2_with fail;go_ret;exact⟨rB I.out.symm,F⟩
theorem sR {l:List Rw}(h:aR l=r)(hs:Rs w v l):
  wR lY 133 #[v] w fun e s=>e=.returned (.bool r)/\E0 w.heap.size w s:=by
 rw[<- h];exact BN v l w hs
theorem BZ (v:sI)(l:List Rw)(w:wH)(h:Rs w v l):
  wR lY 86 #[v] w fun e T=>e=.returned (.bool (aR l))/\E0 w.heap.size w T:=by
 obtain⟨a,W,rfl,Z,hm,hn,s⟩:=Rs.open h;unfold maxLen at hm;have U:=(show Hid _ from s);clear s h
 by_cases I:400<l.length
 ·have H:Hid (aR l=false):=Dm I;have M:decide ((l.length:Int)>400)=true:=by simp;omega
  go_enter sH,sE;go_wp2_with fail;go_ret;exact⟨rB H.out.symm,EJ _ _⟩
 have M:decide ((l.length:Int)>400)=false:=by simp;omega
 go_enter sH,sE;go_wp2_with fail
 go_loopw [10] (fun i wr=>∃k:Nat,k<=l.length/\i=.int .i64 k/\(∀j r,j<k->l[j]?=some r->cU r=true)/\E0 w.heap.size w wr) (fun i _=>l.length-(intOf i).toNat)
 case atStart=>exact⟨0,by omega,rfl,fun j r J=>by omega,EJ _ _⟩
 case round=>
  obtain⟨k,Y,rfl,G,F⟩:=hrel;have S:=(show Hid _ from G);clear G
  by_cases L:k<l.length
  ·obtain⟨g,off,K,V,A,B,D,rfl,hg,hr,Q,c1,c2,c3,c4⟩:=U.out k L;have d0:=cB F Q;have d1:=cB F c1;have d2:=cB F c2;have d3:=cB F c3;have d4:=cB F c4;have R:=(show Hid _ from hr);clear Q c1 c2 c3 c4 hr;cases ho:cU (((K,V),(A,B)),D)
   ·have H:Hid (aR l=false):=mP (kR R.out) ho;go_wp2_with fail;refine (Aj ho _).mono ?_;rintro e w1 ⟨rfl,O⟩;go_wp2_with fail;go_ret;refine⟨rB H.out.symm,?_⟩
    repeat' (first|(with_reducible exact EJ _ _)|(with_reducible assumption)|(with_reducible refine aH ?_ (by with_reducible assumption))|(with_reducible refine aG ?_ _)|(with_reducible refine Lx ?_)|(with_reducible refine dC ?_ _)|(with_reducible refine Ga ?_ ?_ _)|(simp;done)|(simp;omega)|omega)
   ·go_wp2_with fail;refine (Aj ho _).mono ?_;rintro e w1 ⟨rfl,O⟩;have N:E0 w.heap.size w w1:=by
     repeat' (first|(with_reducible exact EJ _ _)|(with_reducible assumption)|(with_reducible refine aH ?_ (by with_reducible assumption))|(with_reducible refine aG ?_ _)|(with_reducible refine Lx ?_)|(with_reducible refine dC ?_ _)|(with_reducible refine Ga ?_ ?_ _)|(simp;done)|(simp;omega)|omega)
    go_wp2_with fail;go_roundw
    case rel=>exact⟨k+1,by omega,by go_num,fun j r J hr=>D7 S.out R.out ho J hr,N⟩
    case measure=>simp[intOf];omega
  ·have H:Hid (aR l=true):=FX (by omega) fun j r J hr=>S.out j r (by omega) hr;go_wp2_with fail;go_ret;exact⟨rB H.out.symm,F⟩
theorem iR {l:List Rw}(h:aR l=r)(hs:Rs w v l):
  wR lY 86 #[v] w fun e s=>e=.returned (.bool r)/\E0 w.heap.size w s:=by
 rw[<- h];exact BZ v l w hs
theorem Bk.eB {F D:sI}(h:Bk w g #[x0,x1,x2,F,D] t)(A u1 u2 u3 s:sI):
  Bk (((((w.setCell ⟨g,0,none⟩ A).setCell ⟨g,1,none⟩ u1).setCell ⟨g,2,none⟩ u2).setCell ⟨g,3,none⟩ u3).setCell ⟨g,4,none⟩ s) g #[A,u1,u2,u3,s] t:=
 ((((h.set 0 A).set 1 u1).set 2 u2).set 3 u3).set 4 s
theorem qO:(lY.info? 55).map (fun i=>(i.zero,i.size,i.bytes))=some (some (.agg #[.int .i64 0,.int .i64 0,.int .i64 0,.int .i64 0,.int .i64 0]),5,40):=by kernel_rfl
theorem LX:(lY.info? 98).map (fun i=>(i.zero,i.size,i.bytes))=some (some (.agg #[.int .i64 0,.int .i64 0,.int .i64 0]),3,24):=by kernel_rfl
open Go.ChangeShapes Go.WideShapes Go.ChangeAt Go.Joins
section
end
end Go.Proofs.YtbdpcngcbnoioaaGreatDoor
