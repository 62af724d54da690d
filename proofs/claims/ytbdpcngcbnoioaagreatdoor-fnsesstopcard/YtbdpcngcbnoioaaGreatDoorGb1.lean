import Derived.Test.YtbdpcngcbnoioaaGreatDoorGa6
import Derived.Deep.Cut
import Derived.Deep.Strs
set_option maxHeartbeats 4000000
namespace Go.Proofs.YtbdpcngcbnoioaaGreatDoor
open _root_.List renaming getElem?_eq_getElem->fM,all_eq_true->fQ,getElem?_eq_some_iff->gD,getElem?_take->gM,flatMap_cons->gQ,eq_nil_of_length_eq_zero->gX,pairwise_iff_getElem->iM,mem_of_getElem?->iP,getElem_of_mem->jB,range->jO
open Go.Proofs.Tryz renaming prog->mO,ntmps194->nA,ntmps186->nB,ntmps154->nT,func194->nX,func186->oU,func154->oW,ntmps133->pU,ntmps86->qV,func133->sD,func86->tJ
open Go renaming Value->tK,World->tL,Calls->tM,lt_of_block->tN
open _root_.Bool renaming and_eq_true->xU,eq_false_iff->xV
open Go.RowKit renaming Below->AP
open Go.RowKit.Below renaming refl->AW,setCell->C5,drew->Df
open _root_.Nat renaming add_mul->E8,zero_add->Fj,mul_le_mul_right->Fl,mul_comm->Ih
open Go.Value renaming ownBlock->JK
variable {B g j k n:Nat}{a b:Int}{r:Bool}{t:TypeId}{v x0 x1 x2:tK}{w w1:tL}{xs:List tK}
abbrev Sp:=(Int×Int)×(Int×Int)
abbrev Rw:=Sp×Int
abbrev It:=(Int×Int)×Int
def bJ (s t:Int×Int):Bool:=decide (s.1<t.1\/(s.1=t.1/\s.2<t.2))
def aW (s t:Sp):Bool:=bJ s.1 t.1||(decide (s.1=t.1)&&bJ s.2 t.2)
theorem cQ:pB bJ where
 irr a:=by simp[bJ]
 trans a b c h1 h2:=by simp[bJ]at *;omega
 tri a b h1 h2:=by simp[bJ]at *;exact Prod.ext (by omega) (by omega)
theorem vO (s t:Sp):aW s t=true↔s.1.1<t.1.1\/(s.1.1=t.1.1/\(s.1.2<t.1.2\/(s.1.2=t.1.2/\(s.2.1<t.2.1\/(s.2.1=t.2.1/\s.2.2<t.2.2))))):=by
 simp only[aW,bJ,Bool.or_eq_true,xU,decide_eq_true_eq,Prod.ext_iff];omega
theorem fG:pB aW where
 irr a:=by rw[xV,Ne,vO];omega
 trans a b c h1 h2:=by rw[vO]at *;omega
 tri a b h1 h2:=by
  rw[xV,Ne,vO]at h1 h2;exact Prod.ext (Prod.ext (by omega) (by omega)) (Prod.ext (by omega) (by omega))
def y9 (s t:Int×Int):Int:=if bJ s t then -1 else if bJ t s then 1 else 0
def iZ (s t:Sp):Int:=if aW s t then -1 else if aW t s then 1 else 0
theorem zA (s t:Sp):decide (iZ s t<0)=aW s t:=by
 unfold iZ;cases h1:aW s t<;>cases h2:aW t s<;>simp
theorem OP (s t:Sp):decide (0<iZ s t)=aW t s:=by
 unfold iZ;cases h1:aW s t<;>cases h2:aW t s<;>simp;have:=fG.trans _ _ _ h1 h2;rw[fG.irr]at this;cases this
theorem He (s t:Int×Int):decide (y9 s t<0)=bJ s t:=by
 unfold y9;cases h1:bJ s t<;>cases h2:bJ t s<;>simp
def dG (r:Rw):Bool:=cG r.1.1.1 0 3&&cG r.1.1.2 0 99&&bM r.1.2.1 r.1.2.2&&cG r.2 (-99999) 99999
def aZ (l:List Rw):Bool:=decide (l.length<=400)&&l.all dG
theorem i6 {l:List Rw}(h:aZ l=true):l.length<=400:=by simp[aZ]at h;exact h.1
theorem eZ {l:List Rw}(h:aZ l=true){r:Rw}(hr:r∈l):dG r=true:=by
 simp only[aZ,xU,fQ]at h;exact h.2 r hr
theorem vT {l:List Rw}(h:l.length<=400)(ha:∀r∈l,dG r=true):aZ l=true:=by
 simp only[aZ,xU,fQ,decide_eq_true_eq];exact⟨h,ha⟩
theorem LG {l:List Rw}{r:Rw}(hr:r∈l)(h:dG r=false):aZ l=false:=by
 rw[xV];intro e;rw[eZ e hr]at h;cases h
theorem Ff {l:List Rw}(h:400<l.length):aZ l=false:=by simp[aZ];omega
theorem pO {r:Rw}(h:dG r=true):bM r.1.2.1 r.1.2.2=true:=by simp[dG]at h;exact h.1.2
theorem mG {r:Rw}(h:dG r=true): -99999<=r.2/\r.2<=99999:=by simp[dG,cG]at h;exact h.2
def iB (l:List Rw)(i:Nat):Bool:=
 match l[i]? with
 | none=>true
 | some r=>decide (r.2≠0)&&(match i with|0=>true|j+1=>match l[j]? with|none=>true|some q=>aW q.1 r.1)
def bH (l:List Rw):Bool:=aZ l&&(jO l.length).all (iB l)
theorem jA {l:List Rw}(h:bH l=true):aZ l=true:=by simp[bH]at h;exact h.1
theorem EW {l:List Rw}(h:aZ l=false):bH l=false:=by simp[bH,h]
theorem Jm {l:List Rw}{i:Nat}(hi:i<l.length)(h:iB l i=false):bH l=false:=by
 unfold bH;have:(jO l.length).all (iB l)=false:=by
  rw[List.all_eq_false];exact⟨i,by simpa using hi,by simp[h]⟩
 rw[this,Bool.and_false]
theorem EV {l:List Rw}(h:aZ l=true)(ha:∀i,i<l.length->iB l i=true):bH l=true:=by
 unfold bH;rw[h,Bool.true_and,fQ];intro j s;exact ha j (by simpa using s)
theorem uV {l:List Rw}{r:Rw}(h:l[0]?=some r):iB l 0=decide (r.2≠0):=by unfold iB;rw[h];simp
theorem rS {l:List Rw}{r q:Rw}(h:l[j+1]?=some r)(s:l[j]?=some q):iB l (j+1)=(decide (r.2≠0)&&aW q.1 r.1):=by
 unfold iB;rw[h];simp[s]
theorem EZ {l:List Rw}(h:bH l=true):Nz l:=fun r hr=>by
 obtain⟨i,hi,e⟩:=jB hr;simp only[bH,xU,fQ]at h;have:=h.2 i (by simpa using hi);unfold iB at this;rw[fM hi,e]at this;simp at this;exact this.1
theorem Fv {l:List Rw}(h:∀i r q,l[i+1]?=some r->l[i]?=some q->aW q.1 r.1=true):kF aW l:=by
 have key:∀d i (h1:i+d+1<l.length),aW (l[i]'(by omega)).1 l[i+d+1].1=true:=by
  intro d
  induction d with
  | zero=>intro i h1;exact h i _ _ (fM h1) (fM (by omega))
  | succ d ih=>
   intro i h1;exact fG.trans _ _ _ (ih i (by omega)) (h (i+d+1) _ _ (fM (by omega)) (fM (by omega)))
 refine iM.2 fun i j hi s A=>?_;obtain⟨d,rfl⟩:∃d,j=i+d+1:=⟨j-i-1,by omega⟩;exact key d i s
theorem Bs {l:List Rw}(h:bH l=true):kF aW l:=Fv fun i r q h1 h2=>by
 simp only[bH,xU,fQ]at h;have:=h.2 (i+1) (by simpa using (gD.1 h1).1);rw[rS h1 h2]at this;simp at this;exact this.2
theorem Jn {l:List Rw}(h:aZ l=true)(hn:Nz l)(hs:kF aW l):bH l=true:=EV h fun i hi=>by
 have hr:=fM hi;have h0:=hn _ (List.getElem_mem hi)
 match i,hi,hr,h0 with
 | 0,hi,hr,h0=>rw[uV hr];simpa using h0
 | j+1,hi,hr,h0=>
  have hq:=fM (l:=l) (i:=j) (by omega);rw[rS hr hq,xU];exact⟨by simpa using h0,iM.1 hs j (j+1) (by omega) hi (by omega)⟩
theorem OG (l:List Rw):bH (aO aW l)=aZ (aO aW l):=by
 cases h:aZ (aO aW l)
 ·exact EW h
 ·exact Jn h (pP _ _) (kN fG _)
def kJ (l:List Rw):List Rw:=if bH l then l else []
def kS (l:List Rw):List Rw:=kJ (aO aW l)
def jH (l:List Rw):List Rw:=if aZ l then kS l else []
def eQ (l:List Rw):List Rw:=l.map fun r=>(r.1,-r.2)
def dW (l:List Rw):List Rw:=if aZ l then kS (eQ l) else []
def c9 (l:List Rw)(x y:Int):List It:=(l.filter fun r=>cX r.1.2.1 r.1.2.2 x y).map fun r=>(r.1.1,r.2)
def aM (l:List Rw)(x y:Int):List It:=if aZ l&&bM x y then aO bJ (c9 l x y) else []
theorem I4:aZ []=true:=by decide
theorem vE:bH []=true:=by decide
theorem OY (l:List Rw):bH (kJ l)=true:=by
 unfold kJ;split
 ·assumption
 ·exact vE
theorem Ps {l:List Rw}(h:bH l=true):kJ l=l:=by simp[kJ,h]
theorem IB (l:List Rw):kS l=if aZ (aO aW l) then aO aW l else []:=by unfold kS kJ;rw[OG]
theorem ID {l:List Rw}(h:aZ (aO aW l)=true):kS l=aO aW l:=by rw[IB,if_pos h]
theorem PV {l:List Rw}(h:aZ (aO aW l)=false):kS l=[]:=by rw[IB];simp[h]
theorem Aj (l:List Rw):bH (kS l)=true:=OY _
theorem NX (l:List Rw):(kS l).length<=l.length:=by
 unfold kS kJ;split
 ·exact gP _ _
 ·simp
theorem Lc (l:List Rw):(kS l).length<=400:=i6 (jA (Aj l))
theorem Cv (l:List Rw):bH (jH l)=true:=by
 unfold jH;split
 ·exact Aj l
 ·exact vE
theorem NP {r:Rw}(h:dG r=true):cG r.1.1.1 0 3=true/\cG r.1.1.2 0 99=true/\bM r.1.2.1 r.1.2.2=true:=by
 simp only[dG,xU]at h;exact⟨h.1.1.1,h.1.1.2,h.1.2⟩
theorem Ji (l:List Rw)(x y:Int)(A:Int×Int):aK (c9 l x y) A=fA (fun s:Sp=>if cX s.2.1 s.2.2 x y=true/\s.1=A then 1 else 0) l:=
 G6 (fun s:Sp=>cX s.2.1 s.2.2 x y) (fun s:Sp=>s.1) l A
open Go.RowKit
section
variable {α:Type}
theorem lH {enc:α->List tK}(s:∀x,(enc x).length=k)(l:List α):(l.flatMap enc).length=l.length*k:=by
 induction l with
 | nil=>simp
 | cons x l ih=>rw[gQ,List.length_append,s,ih,List.length_cons,E8];omega
theorem qH {enc:α->List tK}(s:∀x,(enc x).length=k)(l:List α){i:Nat}{x:α}(h:l[i]?=some x)(A:j<k):(l.flatMap enc)[i*k+j]?=(enc x)[j]?:=by
 induction l generalizing i with
 | nil=>simp at h
 | cons y l ih=>
  cases i with
  | zero=>
   simp at h;subst h;rw[gQ,Nat.zero_mul,Fj,List.getElem?_append_left (by rw[s];exact A)]
  | succ i=>
   have:=ih (i:=i) (by simpa using h);rw[gQ,List.getElem?_append_right (by rw[s,E8];omega),s,<-this]
   congr 1
   rw[E8];omega
def pD (enc:α->List tK)(k:Nat)(w:tL)(v:tK)(l:List α):Prop:=
 ∃a cap,v=.slice a l.length cap/\l.length<=cap/\cap<=maxLen/\l.length<=2097152/\∀i x,l[i]?=some x->∃g off,a=some ⟨g,off,none⟩/\g<w.heap.size/\∀j,j<k->w.cell? ⟨g,off+i*k+j,none⟩=(enc x)[j]?
theorem pD.keep {enc:α->List tK}{l:List α}(h:pD enc k w v l)(s:AP w.heap.size w w1):pD enc k w1 v l:=by
 obtain⟨a,A,rfl,h1,h2,h3,h4⟩:=h;refine⟨a,A,rfl,h1,h2,h3,fun i x hi=>?_⟩;obtain⟨g,off,rfl,hg,c⟩:=h4 i x hi;exact⟨g,off,rfl,Nat.lt_of_lt_of_le hg s.size,fun j D=>by rw[s.cell (p:=⟨g,_,none⟩) hg];exact c j D⟩
def jJ (enc:α->List tK)(k:Nat)(c:Array tK)(l:List α)(n:Nat):Prop:=∀i x,i<n->l[i]?=some x->∀j,j<k->c[i*k+j]?=(enc x)[j]?
theorem pD.dt {enc:α->List tK}{s:Nat}{c:Array tK}{l:List α}(h:Bk w g c t)(hf:jJ enc k c l l.length)(G:∀x,(enc x).length=k)(H:l.length<=s)(hm:s<=maxLen)(hn:l.length<=2097152):
  pD enc k w (.slice (some ⟨g,0,none⟩) l.length s) l:=by
 refine⟨_,s,rfl,H,hm,hn,fun i x hi=>⟨g,0,rfl,h.lt,fun j D=>?_⟩⟩;have e:=hf i x (gD.1 hi).1 hi j D;have A:j<(enc x).length:=by rw[G];exact D
 rw[Fj,fM A];rw[fM A]at e;exact h.cell e
abbrev pY (enc:α->List tK)(k:Nat)(t:TypeId)(w:tL)(B:Nat)(v:tK)(l:List α):Prop:=w.ownsRow B t k v l.length (l.flatMap enc)
theorem vR {enc:α->List tK}{l:List α}(h:pY enc k t w B v l)(D:∀x,(enc x).length=k)(hl:l.length<=2097152):pD enc k w v l:=by
 have H:=h;obtain⟨_,h2⟩:=h
 rcases h2 with⟨rfl,h0⟩|⟨g,A,L,rfl,hg,J,I,hm,_,_⟩
 ·have:l=[]:=gX h0;subst this;exact⟨none,0,rfl,Nat.le_refl _,by unfold maxLen;omega,by simp,fun i x hi=>by simp at hi⟩
 ·refine⟨_,A,rfl,I,hm,hl,fun i x hi=>⟨g,0,rfl,tN J,fun j G=>?_⟩⟩;have s:=(gD.1 hi).1;have:i*k+j<l.length*k:=by
   have:(i+1)*k<=l.length*k:=Fl k s;rw[E8]at this;omega
  rw[Fj,H.cellAt _ this,qH D l hi G]
theorem oN (enc:α->List tK)(k:Nat)(t:TypeId)(w:tL)(B:Nat):pY enc k t w B (.slice none 0 0) []:=⟨by simp,.inl ⟨rfl,rfl⟩⟩
theorem yS {enc:α->List tK}{s:Nat}{c:Array tK}{l:List α}(h:Bk w g c t)(hf:jJ enc k c l l.length)(A:∀x,(enc x).length=k)(hs:c.size=s*k)(G:l.length<=s)(hm:s<=maxLen)(hg:B<=g):
  pY enc k t w B (.slice (some ⟨g,0,none⟩) l.length s) l:=by
 refine⟨lH A l,.inr ⟨g,s,c,rfl,hg,h,G,hm,hs,?_⟩⟩
 apply List.ext_getElem?
 intro i
 by_cases hi:i<l.length*k
 ·have D:0<k:=by
   rcases Nat.eq_zero_or_pos k with e|e
   ·subst e;omega
   ·exact e
  rw[gM,if_pos hi,Array.getElem?_toList];have e:i=i / k*k+i%k:=by rw[Ih];exact (Nat.div_add_mod i k).symm
  have hq:i / k<l.length:=Nat.div_lt_of_lt_mul (by rw[Ih];exact hi);have hr:i%k<k:=Nat.mod_lt _ D;rw[e,hf _ _ hq (fM hq) _ hr,qH A l (fM hq) hr]
 ·rw[gM,if_neg hi,List.getElem?_eq_none (by rw[lH A];omega)]
theorem fX {enc:α->List tK}{l:List α}(h:pY enc k t w B v l)(G:∀x,(enc x).length=k):(v=.slice none 0 0/\l=[]) \/
  ∃g s c,v=.slice (some ⟨g,0,none⟩) l.length s/\B<=g/\Bk w g c t/\c.size=s*k/\l.length<=s/\s<=maxLen/\jJ enc k c l l.length:=by
 obtain⟨h1,⟨rfl,h2⟩|⟨g,s,A,rfl,hg,I,J,hm,hs,D⟩⟩:=h
 ·exact .inl ⟨rfl,gX h2⟩
 ·refine .inr ⟨g,s,A,rfl,hg,I,hs,J,hm,fun i x hi hx j H=>?_⟩;have:i*k+j<l.length*k:=by
   have:(i+1)*k<=l.length*k:=Fl k hi;rw[E8]at this;omega
  rw[<- qH G l hx H,<-D,gM,if_pos this,Array.getElem?_toList]
theorem fB (h:w.ownsRow B t k v n xs)(D:∀b,v.ownBlock=some b->w1.heap[b]?=w.heap[b]?):w1.ownsRow B t k v n xs:=by
 obtain⟨h1,h2⟩:=h;refine⟨h1,?_⟩
 rcases h2 with h2|⟨g,A,s,rfl,hg,G,r⟩
 ·exact .inl h2
 ·exact .inr ⟨g,A,s,rfl,hg,by rw[D g (by simp[JK])];exact G,r⟩
theorem oT (h:w.ownsRow B t k v n xs)(b:Nat)(e:v.ownBlock=some b):b<w.heap.size:=by
 obtain⟨h1,⟨rfl,h2⟩|⟨g,D,A,rfl,hg,s,_⟩⟩:=h
 ·simp[JK]at e
 ·simp[JK]at e;subst e;exact tN s
theorem bU (h:w.ownsRow B t k v n xs)(b:Nat)(e:v.ownBlock=some b):B<=b:=by
 obtain⟨h1,⟨rfl,h2⟩|⟨g,A,s,rfl,hg,D,_⟩⟩:=h
 ·simp[JK]at e
 ·simp[JK]at e;subst e;exact hg
theorem AD (h:w.ownsRow B t k v n xs)(A:Bx g w w1)(s:∀b,v.ownBlock=some b->b≠g):w1.ownsRow B t k v n xs:=
 fB h fun b e=>A.block b (oT h b e) (s b e)
end
abbrev iE (r:Rw):List tK:=[.int .i64 r.1.1.1,.int .i64 r.1.1.2,.int .i64 r.1.2.1,.int .i64 r.1.2.2,.int .i64 r.2]
abbrev nQ (r:It):List tK:=[.int .i64 r.1.1,.int .i64 r.1.2,.int .i64 r.2]
abbrev rv (k v a b d:Int):tK:= .agg #[.int .i64 k,.int .i64 v,.int .i64 a,.int .i64 b,.int .i64 d]
abbrev iv (k v d:Int):tK:= .agg #[.int .i64 k,.int .i64 v,.int .i64 d]
theorem jP (x:Rw):(iE x).length=5:=rfl
theorem nI (x:It):(nQ x).length=3:=rfl
abbrev Rs (w:tL)(v:tK)(l:List Rw):Prop:=pD iE 5 w v l
abbrev Is (w:tL)(v:tK)(l:List It):Prop:=pD nQ 3 w v l
abbrev aC (w:tL)(B:Nat)(v:tK)(l:List Rw):Prop:=pY iE 5 55 w B v l
abbrev aQ (w:tL)(B:Nat)(v:tK)(l:List It):Prop:=pY nQ 3 98 w B v l
theorem aC.rs {l:List Rw}(h:aC w B v l)(hl:l.length<=2097152):Rs w v l:=vR h jP hl
theorem aQ.is {l:List It}(h:aQ w B v l)(hl:l.length<=2097152):Is w v l:=vR h nI hl
theorem Rs.open {l:List Rw}(h:Rs w v l):∃a s,v=.slice a l.length s/\l.length<=s/\s<=maxLen/\l.length<=2097152 /\
  ∀i,i<l.length->∃g off K V A B D,a=some ⟨g,off,none⟩/\g<w.heap.size/\l[i]?=some (((K,V),(A,B)),D)/\w.cell? ⟨g,off+i*5,none⟩=some (.int .i64 K)/\w.cell? ⟨g,off+i*5+1,none⟩=some (.int .i64 V) /\
   w.cell? ⟨g,off+i*5+2,none⟩=some (.int .i64 A)/\w.cell? ⟨g,off+i*5+3,none⟩=some (.int .i64 B)/\w.cell? ⟨g,off+i*5+4,none⟩=some (.int .i64 D):=by
 obtain⟨a,s,h0,h1,h2,h3,h4⟩:=h;refine⟨a,s,h0,h1,h2,h3,fun i hi=>?_⟩;obtain⟨g,off,ha,hg,c⟩:=h4 i l[i] (fM hi);exact⟨g,off,_,_,_,_,_,ha,hg,fM hi,c 0 (by omega),c 1 (by omega),c 2 (by omega),c 3 (by omega),c 4 (by omega)⟩
theorem Is.open {l:List It}(h:Is w v l):∃a s,v=.slice a l.length s/\l.length<=s/\s<=maxLen/\l.length<=2097152 /\
  ∀i,i<l.length->∃g off K V D,a=some ⟨g,off,none⟩/\g<w.heap.size/\l[i]?=some ((K,V),D)/\w.cell? ⟨g,off+i*3,none⟩=some (.int .i64 K)/\w.cell? ⟨g,off+i*3+1,none⟩=some (.int .i64 V)/\w.cell? ⟨g,off+i*3+2,none⟩=some (.int .i64 D):=by
 obtain⟨a,s,h0,h1,h2,h3,h4⟩:=h;refine⟨a,s,h0,h1,h2,h3,fun i hi=>?_⟩;obtain⟨g,off,ha,hg,c⟩:=h4 i l[i] (fM hi);exact⟨g,off,_,_,_,ha,hg,fM hi,c 0 (by omega),c 1 (by omega),c 2 (by omega)⟩
theorem Bk.ag {A s:tK}(h:Bk w k #[x0,x1,x2,A,s] t):
  w.cell? ⟨k,0,none⟩=some x0/\w.cell? ⟨k,1,none⟩=some x1/\w.cell? ⟨k,2,none⟩=some x2/\w.cell? ⟨k,3,none⟩=some A/\w.cell? ⟨k,4,none⟩=some s:=by
 unfold Bk at h;simp[tL.cell?,h]
theorem Bk.three (h:Bk w k #[x0,x1,x2] t):
  w.cell? ⟨k,0,none⟩=some x0/\w.cell? ⟨k,1,none⟩=some x1/\w.cell? ⟨k,2,none⟩=some x2:=by
 unfold Bk at h;simp[tL.cell?,h]
theorem qI {n s hi:Int}(h:cG n s hi=r)(w:tL):tM mO 132 #[.int .i64 n,.int .i64 s,.int .i64 hi] w fun e A=>e=.returned (.bool r)/\A=w:=by
 rw[<- h];exact sZ n s hi w
theorem yI (h:bM a b=r)(w:tL):tM mO 67 #[tv a b] w fun e s=>e=.returned (.bool r)/\AP w.heap.size w s:=by
 rw[<- h];exact gW a b w
theorem Gz (k v a b d:Int)(w:tL):
  tM mO 186 #[rv k v a b d] w fun e D=>e=.returned (.bool (dG (((k,v),(a,b)),d)))/\AP w.heap.size w D:=by
 have H:Hid (dG (((k,v),(a,b)),d)=(cG k 0 3&&cG v 0 99&&bM a b&&cG d (-99999) 99999)):=rfl;have bk:=Bk.new (w:=w) #[.int .i64 k,.int .i64 v,.int .i64 a,.int .i64 b,.int .i64 d] 55 rfl;have A:AP w.heap.size w (w.alloc (.cells #[.int .i64 k,.int .i64 v,.int .i64 a,.int .i64 b,.int .i64 d] 55)):=aH (AW _ _) _;cases h1:cG k 0 3
 ·go_enter oU,nB
  go_wp2_with (go_at_call 132;refine (qI (by with_reducible assumption) _).mono ?_;rintro e D ⟨rfl,rfl⟩)
  go_ret;exact⟨rB (by rw[H.out,h1];rfl),A⟩
 cases h2:cG v 0 99
 ·go_enter oU,nB
  go_wp2_with (go_at_call 132;refine (qI (by with_reducible assumption) _).mono ?_;rintro e D ⟨rfl,rfl⟩)
  go_ret;exact⟨rB (by rw[H.out,h1,h2];rfl),A⟩
 cases h3:bM a b
 ·go_enter oU,nB
  go_wp2_with (first|(go_at_call 132;refine (qI (by with_reducible assumption) _).mono ?_;rintro e D ⟨rfl,rfl⟩)|(go_at_call 65;refine (lB (by with_reducible assumption) _).mono ?_;rintro e w1 ⟨rfl,s⟩))
  go_ret;exact⟨rB (by rw[H.out,h1,h2,h3];rfl),aG A s⟩
 cases h4:cG d (-99999) 99999
 all_goals
  go_enter oU,nB
  go_wp2_with (first|(go_at_call 132;refine (qI (by with_reducible assumption) _).mono ?_;rintro e D ⟨rfl,rfl⟩)|(go_at_call 65;refine (lB (by with_reducible assumption) _).mono ?_;rintro e w1 ⟨rfl,s⟩;obtain⟨M,L,J,I,G⟩:=(bk.keep s).ag))
  go_ret;exact⟨rB (by rw[H.out,h1,h2,h3,h4];rfl),aG A s⟩
theorem Bh {k v d:Int}(h:dG (((k,v),(a,b)),d)=r)(w:tL):tM mO 186 #[rv k v a b d] w fun e s=>e=.returned (.bool r)/\AP w.heap.size w s:=by
 rw[<- h];exact Gz k v a b d w
theorem H7 (k v:Int)(w:tL):tM mO 194 #[.int .i64 k,.int .i64 v] w fun e D=>e=.returned (.bool (cG k 0 3&&cG v 0 99))/\D=w:=by
 have A:Hid (cG k 0 3=decide (0<=k/\k<=3)):=rfl;have s:Hid (cG v 0 99=decide (0<=v/\v<=99)):=rfl
 by_cases h1:0<=k
 ·by_cases h2:k<4
  ·by_cases h3:0<=v
   ·by_cases h4:v<100
    all_goals
     go_enter nX,nA;go_wp2_with fail;go_ret;exact⟨rB (by rw[A.out,s.out];simp;omega),rfl⟩
   ·go_enter nX,nA;go_wp2_with fail;go_ret;exact⟨rB (by rw[A.out,s.out];simp;omega),rfl⟩
  ·go_enter nX,nA;go_wp2_with fail;go_ret;exact⟨rB (by rw[A.out,s.out];simp;omega),rfl⟩
 ·go_enter nX,nA;go_wp2_with fail;go_ret;exact⟨rB (by rw[A.out,s.out];simp;omega),rfl⟩
theorem lE {k v:Int}(h:(cG k 0 3&&cG v 0 99)=r)(w:tL):tM mO 194 #[.int .i64 k,.int .i64 v] w fun e s=>e=.returned (.bool r)/\s=w:=by
 rw[<- h];exact H7 k v w
theorem GU (k v a b d:Int)(w:tL):
  tM mO 154 #[rv k v a b d] w fun e D=>e=.returned (.bool (dG (((k,v),(a,b)),d)))/\AP w.heap.size w D:=by
 have H:Hid (dG (((k,v),(a,b)),d)=(cG k 0 3&&cG v 0 99&&bM a b&&decide (-99999<=d/\d<=99999))):=rfl;have bk:=Bk.new (w:=w) #[.int .i64 k,.int .i64 v,.int .i64 a,.int .i64 b,.int .i64 d] 55 rfl;have A:AP w.heap.size w (w.alloc (.cells #[.int .i64 k,.int .i64 v,.int .i64 a,.int .i64 b,.int .i64 d] 55)):=aH (AW _ _) _;cases h1:(cG k 0 3&&cG v 0 99)
 ·go_enter oW,nT
  go_wp2_with (go_at_call 194;refine (lE (by with_reducible assumption) _).mono ?_;rintro e D ⟨rfl,rfl⟩)
  go_ret;exact⟨rB (by rw[H.out,h1];rfl),A⟩
 cases h3:bM a b
 ·go_enter oW,nT
  go_wp2_with (first|(go_at_call 194;refine (lE (by with_reducible assumption) _).mono ?_;rintro e D ⟨rfl,rfl⟩)|(go_at_call 67;refine (yI (by with_reducible assumption) _).mono ?_;rintro e w1 ⟨rfl,s⟩))
  go_ret;exact⟨rB (by rw[H.out,h1,h3];rfl),aG A s⟩
 by_cases h4: -99999<=d
 ·by_cases h5:d<=99999
  all_goals
   go_enter oW,nT
   go_wp2_with (first|(go_at_call 194;refine (lE (by with_reducible assumption) _).mono ?_;rintro e D ⟨rfl,rfl⟩)|(go_at_call 67;refine (yI (by with_reducible assumption) _).mono ?_;rintro e w1 ⟨rfl,s⟩;obtain⟨M,L,J,I,G⟩:=(bk.keep s).ag))
   go_ret;exact⟨rB (by rw[H.out,h1,h3];simp;omega),aG A s⟩
 ·go_enter oW,nT
  go_wp2_with (first|(go_at_call 194;refine (lE (by with_reducible assumption) _).mono ?_;rintro e D ⟨rfl,rfl⟩)|(go_at_call 67;refine (yI (by with_reducible assumption) _).mono ?_;rintro e w1 ⟨rfl,s⟩;obtain⟨M,L,J,I,G⟩:=(bk.keep s).ag))
  go_ret;exact⟨rB (by rw[H.out,h1,h3];simp;omega),aG A s⟩
theorem B9 {k v d:Int}(h:dG (((k,v),(a,b)),d)=r)(w:tL):tM mO 154 #[rv k v a b d] w fun e s=>e=.returned (.bool r)/\AP w.heap.size w s:=by
 rw[<- h];exact GU k v a b d w
theorem I8 {l:List Rw}(h:l.length<=400)(ha:∀j r,j<l.length->l[j]?=some r->dG r=true):aZ l=true:=
 vT h fun r hr=>by
  obtain⟨i,hi,e⟩:=jB hr;exact ha i r hi (by rw[fM hi,e])
theorem G9 {l:List Rw}{q:Rw}(h:∀j r,j<k->l[j]?=some r->dG r=true)(hq:l[k]?=some q)(s:dG q=true){r:Rw}(A:j<k+1)(hr:l[j]?=some r):dG r=true:=by
 by_cases e:j=k
 ·subst e;rw[hq]at hr;cases hr;exact s
 ·exact h j r (by omega) hr
theorem CT (v:tK)(l:List Rw)(w:tL)(h:Rs w v l):
  tM mO 133 #[v] w fun e W=>e=.returned (.bool (aZ l))/\AP w.heap.size w W:=by
 obtain⟨a,Z,rfl,hc,hm,hn,s⟩:=Rs.open h;unfold maxLen at hm;have Y:=(show Hid _ from s);clear s h
 by_cases L:400<l.length
 ·have J:Hid (aZ l=false):=Ff L;have Q:decide ((l.length:Int)>400)=true:=by simp;omega
  go_enter sD,pU;go_wp2_with fail;go_ret;exact⟨rB J.out.symm,AW _ _⟩
 have Q:decide ((l.length:Int)>400)=false:=by simp;omega
 go_enter sD,pU;go_wp2_with fail
 go_loopw [3] (fun i wr=>∃k:Nat,k<=l.length/\i=.int .i64 k/\(∀j r,j<k->l[j]?=some r->dG r=true)/\AP w.heap.size w wr) (fun i _=>l.length-(intOf i).toNat)
 case atStart=>exact⟨0,by omega,rfl,fun j r M=>by omega,AW _ _⟩
 case round=>
  obtain⟨k,hk,rfl,I,G⟩:=hrel;have U:=(show Hid _ from I);clear I
  by_cases O:k<l.length
  ·obtain⟨g,off,K,V,A,B,D,rfl,hg,hr,S,c1,c2,c3,c4⟩:=Y.out k O;have d0:=cB G S;have d1:=cB G c1;have d2:=cB G c2;have d3:=cB G c3;have d4:=cB G c4;have T:=(show Hid _ from hr);clear S c1 c2 c3 c4 hr;cases ho:dG (((K,V),(A,B)),D)
   ·have J:Hid (aZ l=false):=LG (iP T.out) ho;go_wp2_with fail;refine (Bh ho _).mono ?_;rintro e w1 ⟨rfl,H⟩;go_wp2_with fail;go_ret;exact⟨rB J.out.symm,aG G H⟩
   ·go_wp2_with fail;refine (Bh ho _).mono ?_;rintro e w1 ⟨rfl,H⟩;have R:=aG G H;go_wp2_with fail;go_roundw
    case rel=>exact⟨k+1,by omega,by go_num,fun j r M hr=>G9 U.out T.out ho M hr,R⟩
    case measure=>simp[intOf];omega
  ·have J:Hid (aZ l=true):=I8 (by omega) fun j r M hr=>U.out j r (by omega) hr;go_wp2_with fail;go_ret;exact⟨rB J.out.symm,G⟩
theorem sR {l:List Rw}(h:aZ l=r)(hs:Rs w v l):
  tM mO 133 #[v] w fun e s=>e=.returned (.bool r)/\AP w.heap.size w s:=by
 rw[<- h];exact CT v l w hs
theorem C9 (v:tK)(l:List Rw)(w:tL)(h:Rs w v l):
  tM mO 86 #[v] w fun e W=>e=.returned (.bool (aZ l))/\AP w.heap.size w W:=by
 obtain⟨a,Z,rfl,hc,hm,hn,s⟩:=Rs.open h;unfold maxLen at hm;have Y:=(show Hid _ from s);clear s h
 by_cases J:400<l.length
 ·have I:Hid (aZ l=false):=Ff J;have O:decide ((l.length:Int)>400)=true:=by simp;omega
  go_enter tJ,qV;go_wp2_with fail;go_ret;exact⟨rB I.out.symm,AW _ _⟩
 have O:decide ((l.length:Int)>400)=false:=by simp;omega
 go_enter tJ,qV;go_wp2_with fail
 go_loopw [10] (fun i wr=>∃k:Nat,k<=l.length/\i=.int .i64 k/\(∀j r,j<k->l[j]?=some r->dG r=true)/\AP w.heap.size w wr) (fun i _=>l.length-(intOf i).toNat)
 case atStart=>exact⟨0,by omega,rfl,fun j r L=>by omega,AW _ _⟩
 case round=>
  obtain⟨k,hk,rfl,H,G⟩:=hrel;have U:=(show Hid _ from H);clear H
  by_cases M:k<l.length
  ·obtain⟨g,off,K,V,A,B,D,rfl,hg,hr,S,c1,c2,c3,c4⟩:=Y.out k M;have d0:=cB G S;have d1:=cB G c1;have d2:=cB G c2;have d3:=cB G c3;have d4:=cB G c4;have T:=(show Hid _ from hr);clear S c1 c2 c3 c4 hr;cases ho:dG (((K,V),(A,B)),D)
   ·have I:Hid (aZ l=false):=LG (iP T.out) ho;go_wp2_with fail;refine (B9 ho _).mono ?_;rintro e w1 ⟨rfl,R⟩;go_wp2_with fail;go_ret;refine⟨rB I.out.symm,?_⟩
    repeat' (first|(with_reducible exact AW _ _)|(with_reducible assumption)|(with_reducible refine aG ?_ (by with_reducible assumption))|(with_reducible refine aH ?_ _)|(with_reducible refine Df ?_)|(with_reducible refine dV ?_ _)|(with_reducible refine C5 ?_ ?_ _)|(simp;done)|(simp;omega)|omega)
   ·go_wp2_with fail;refine (B9 ho _).mono ?_;rintro e w1 ⟨rfl,R⟩;have Q:AP w.heap.size w w1:=by
     repeat' (first|(with_reducible exact AW _ _)|(with_reducible assumption)|(with_reducible refine aG ?_ (by with_reducible assumption))|(with_reducible refine aH ?_ _)|(with_reducible refine Df ?_)|(with_reducible refine dV ?_ _)|(with_reducible refine C5 ?_ ?_ _)|(simp;done)|(simp;omega)|omega)
    go_wp2_with fail;go_roundw
    case rel=>exact⟨k+1,by omega,by go_num,fun j r L hr=>G9 U.out T.out ho L hr,Q⟩
    case measure=>simp[intOf];omega
  ·have I:Hid (aZ l=true):=I8 (by omega) fun j r L hr=>U.out j r (by omega) hr;go_wp2_with fail;go_ret;exact⟨rB I.out.symm,G⟩
theorem iR {l:List Rw}(h:aZ l=r)(hs:Rs w v l):
  tM mO 86 #[v] w fun e s=>e=.returned (.bool r)/\AP w.heap.size w s:=by
 rw[<- h];exact C9 v l w hs
theorem Bk.er {G D:tK}(h:Bk w g #[x0,x1,x2,G,D] t)(A u1 u2 u3 s:tK):
  Bk (((((w.setCell ⟨g,0,none⟩ A).setCell ⟨g,1,none⟩ u1).setCell ⟨g,2,none⟩ u2).setCell ⟨g,3,none⟩ u3).setCell ⟨g,4,none⟩ s) g #[A,u1,u2,u3,s] t:=
 ((((h.set 0 A).set 1 u1).set 2 u2).set 3 u3).set 4 s
theorem rU:(mO.info? 55).map (fun i=>(i.zero,i.size,i.bytes))=some (some (.agg #[.int .i64 0,.int .i64 0,.int .i64 0,.int .i64 0,.int .i64 0]),5,40):=by kernel_rfl
theorem BG:(mO.info? 98).map (fun i=>(i.zero,i.size,i.bytes))=some (some (.agg #[.int .i64 0,.int .i64 0,.int .i64 0]),3,24):=by kernel_rfl
open Go.ChangeShapes Go.WideShapes Go.ChangeAt Go.Joins
section
end
end Go.Proofs.YtbdpcngcbnoioaaGreatDoor
