import Derived.Test.YtbdpcngcbnoioaaGreatDoorGl1
import Derived.Test.YtbdpcngcbnoioaaGreatDoorGpa
namespace Go.Proofs.YtbdpcngcbnoioaaGreatDoor
open _root_.Option renaming bind_eq_some_iff->fM,bind_some->fQ
open _root_.Bool renaming and_eq_true->gD,and_assoc->gM,and_true->gQ
open _root_.List renaming all_cons->gX,mem_map->iM,all_nil->iP
variable {i:Nat}{k n:Int}
def DU (k n:Int)(x y:List Rw):List Rw:=
 if k=2 then aO aW (cJ n x) else if k=3 then aO aW (x++y) else if k=4 then dW x else if k=5 then aO aW (cY x y) else aO aW (fT n x)
def Ba (k n:Int)(x y:List It):List It:=
 if k=2 then eU x n else if k=3 then kO x y else if k=4 then nM x else if k=5 then ED x y else dE n x
def rK (l:List Rw):Option (List Rw):=if bH l then some l else none
def sT (l:List It):Option (List It):=if aX l then some l else none
def cU (a b:List Rw):PT->Option (List Rw)
 | .n0 _ n=>rK (if n=0 then a else b)
 | .n1 k n x=>(cU a b x).bind fun r=>rK (DU k n r [])
 | .n2 k n x y=>(cU a b x).bind fun r=>(cU a b y).bind fun s=>rK (DU k n r s)
def dS (a b:List It):PT->Option (List It)
 | .n0 _ n=>sT (if n=0 then a else b)
 | .n1 k n x=>(dS a b x).bind fun r=>sT (Ba k n r [])
 | .n2 k n x y=>(dS a b x).bind fun r=>(dS a b y).bind fun s=>sT (Ba k n r s)
theorem pH {l r:List Rw}:rK l=some r↔bH l=true/\l=r:=by
 unfold rK;split<;>simp_all
theorem pF {l r:List It}:sT l=some r↔aX l=true/\l=r:=by
 unfold sT;split<;>simp_all
theorem mU {l:List Rw}(h:bH l=true):rK l=some l:=by simp[rK,h]
theorem pG {l:List Rw}(h:bH l=false):rK l=none:=by simp[rK,h]
theorem sU {l:List It}(h:aX l=true):sT l=some l:=by simp[sT,h]
theorem OX {l:List It}(h:aX l=false):sT l=none:=by simp[sT,h]
theorem lU {a b r:List Rw}{t:PT}(h:cU a b t=some r):bH r=true:=by
 cases t with
 | n0 k n=>obtain⟨h1,rfl⟩:=pH.1 h;exact h1
 | n1 k n x=>
  obtain⟨s,_,h2⟩:=fM.1 h;obtain⟨h1,rfl⟩:=pH.1 h2;exact h1
 | n2 k n x y=>
  obtain⟨s,_,h2⟩:=fM.1 h;obtain⟨u,_,h3⟩:=fM.1 h2;obtain⟨h1,rfl⟩:=pH.1 h3;exact h1
theorem pN {a b r:List It}{t:PT}(h:dS a b t=some r):aX r=true:=by
 cases t with
 | n0 k n=>obtain⟨h1,rfl⟩:=pF.1 h;exact h1
 | n1 k n x=>
  obtain⟨s,_,h2⟩:=fM.1 h;obtain⟨h1,rfl⟩:=pF.1 h2;exact h1
 | n2 k n x y=>
  obtain⟨s,_,h2⟩:=fM.1 h;obtain⟨u,_,h3⟩:=fM.1 h2;obtain⟨h1,rfl⟩:=pF.1 h3;exact h1
theorem FC {l:List Rw}(h:bH l=true):dW l=eQ l:=by
 have hr:=jA h;have e:aO aW (eQ l)=eQ l:=by
  refine Dc fG ?_ ?_
  ·unfold eQ kF;rw[List.pairwise_map];exact Bs h
  ·intro r hr;obtain⟨q,hq,rfl⟩:=iM.1 hr;have:=EZ h q hq;simp only;omega
 have g:aZ (eQ l)=true:=by
  refine vT (by unfold eQ;rw[List.length_map];exact i6 hr) fun r a=>?_;obtain⟨q,hq,rfl⟩:=iM.1 a;have:=eZ hr hq;simp only[dG,gD]at this ⊢;refine⟨this.1,?_⟩;have h2:=this.2;simp only[cG,decide_eq_true_eq]at h2 ⊢;omega
 simp only[dW,hr,if_true];rw[ID (by rw[e];exact g),e]
theorem DQ (l:List Rw):bH (dW l)=true:=by
 unfold dW;split
 ·exact Aj _
 ·exact vE
theorem Pg (l:List Rw)(x y:Int):c9 (eQ l) x y=dY (c9 l x y):=by
 unfold c9 eQ dY
 induction l with
 | nil=>rfl
 | cons r l ih=>cases h2:cX r.1.2.1 r.1.2.2 x y<;>simp[h2]at ih ⊢<;>exact ih
theorem FP {x y:List Rw}(G:2<=k/\k<=6)(hn:eH k<=n/\n<=eP k)(hx:bH x=true)(B:bH y=true)(ho:bH (DU k n x y)=true){X Y:Int}(a:bM X Y=true):
  aM (DU k n x y) X Y=Ba k n (aM x X Y) (aM y X Y):=by
 have g:=jA hx;have s:=jA B;rw[eV (jA ho) a];have D:k=2\/k=3\/k=4\/k=5\/k=6:=by omega
 rcases D with rfl|rfl|rfl|rfl|rfl
 ·have A:cG n 1 7=true:=by simp[eH,eP]at hn;simp[cG];exact hn
  show aO bJ (c9 (aO aW (cJ n x)) X Y)=eU (aM x X Y) n
  rw[At,O9,lZ (cO x X Y) A,eV g a];refine lD cQ fun z=>?_;rw[Ek,Ek,uQ cQ]
 ·show aO bJ (c9 (aO aW (x++y)) X Y)=kO (aM x X Y) (aM y X Y)
  rw[At,pE,Cx (cO x X Y) (cO y X Y),eV g a,eV s a];refine lD cQ fun z=>?_;rw[eI,eI,lJ cQ,lJ cQ]
 ·show aO bJ (c9 (dW x) X Y)=nM (aM x X Y)
  rw[FC hx,Pg,yN (cO x X Y),eV g a];refine Lg (P1 (by rw[<- eV g a];exact cO x X Y)) fun z=>?_;rw[xB,xB,lJ cQ]
 ·show aO bJ (c9 (aO aW (cY x y)) X Y)=ED (aM x X Y) (aM y X Y)
  rw[At,OC (fun r hr=>pO (eZ g hr)) (fun r hr=>pO (eZ s hr)),uA (cO x X Y) (cO y X Y),eV g a,eV s a];refine lD cQ fun z=>?_;rw[FW,FW,uQ cQ];refine JY fun r _=>?_;rw[uQ cQ]
 ·have A:cG n 1 3=true:=by simp[eH,eP]at hn;simp[cG];exact hn
  show aO bJ (c9 (aO aW (fT n x)) X Y)=dE n (aM x X Y)
  rw[At];exact Lg (p8 n (cO x X Y)) fun v=>(KG n g a v).symm
theorem m6 {t:PT}(h:dZ t=true):(1<=t.k/\t.k<=6)/\(t.len:Int)=fO t.k/\eH t.k<=t.n/\t.n<=eP t.k:=by
 simp only[dZ,cG,gD,decide_eq_true_eq]at h;exact⟨h.1.1,h.1.2,h.2⟩
theorem Hn (h:1<=k/\k<=6)(h1:fO k≠0):2<=k/\k<=6:=by
 refine⟨?_,h.2⟩
 rcases Int.lt_or_eq_of_le h.1 with h2|h2
 ·omega
 ·subst h2;exact absurd rfl h1
theorem sC {a b:List Rw}(ha:bH a=true)(J:bH b=true){X Y:Int}(g:bM X Y=true):∀{t:PT}{d:Nat}{r:List Rw},cP t d=true->cU a b t=some r->dS (aM a X Y) (aM b X Y) t=some (aM r X Y)
 | .n0 k n,d,r,hp,h=>by
  obtain⟨h1,rfl⟩:=pH.1 h;simp only[dS]
  by_cases e:n=0
  ·rw[if_pos e,if_pos e];exact sU (cO _ _ _)
  ·rw[if_neg e,if_neg e];exact sU (cO _ _ _)
 | .n1 k n x,0,r,hp,h=>by rw[lI]at hp;cases hp
 | .n1 k n x,d+1,r,hp,h=>by
  obtain⟨I,A⟩:=lA hp;obtain⟨s,hs,h2⟩:=fM.1 h;obtain⟨h1,rfl⟩:=pH.1 h2;obtain⟨G,D,B⟩:=m6 I;have H:dS (aM a X Y) (aM b X Y) x=some (aM s X Y):=sC ha J g (A 0 (by simp[PT.len])) hs;simp only[dS,H,fQ];have e:=FP (Hn G (by rw[<- D];simp[PT.len])) B (lU hs) vE h1 g;rw[show aM [] X Y=[] from by rw[eV I4 g];rfl]at e;rw[show Ba k n (aM s X Y) []=aM (DU k n s []) X Y from e.symm];exact sU (cO _ _ _)
 | .n2 k n x y,0,r,hp,h=>by rw[lI]at hp;cases hp
 | .n2 k n x y,d+1,r,hp,h=>by
  obtain⟨I,A⟩:=lA hp;obtain⟨s,hs,h2⟩:=fM.1 h;obtain⟨u,L,h3⟩:=fM.1 h2;obtain⟨h1,rfl⟩:=pH.1 h3;obtain⟨G,D,B⟩:=m6 I;have H:dS (aM a X Y) (aM b X Y) x=some (aM s X Y):=sC ha J g (A 0 (by simp[PT.len])) hs;have M:dS (aM a X Y) (aM b X Y) y=some (aM u X Y):=sC ha J g (A 1 (by simp[PT.len])) L;simp only[dS,H,M,fQ];have e:=FP (Hn G (by rw[<- D];simp[PT.len])) B (lU hs) (lU L) h1 g;rw[show Ba k n (aM s X Y) (aM u X Y)=aM (DU k n s u) X Y from e.symm];exact sU (cO _ _ _)
def jN (a b:List Rw)(t:PT)(K:List (List Rw)):List Rw:=if t.k=1 then (if t.n=0 then a else b) else DU t.k t.n (K.getD 0 []) (K.getD 1 [])
def tD (a b:List It)(t:PT)(K:List (List It)):List It:=if t.k=1 then (if t.n=0 then a else b) else Ba t.k t.n (K.getD 0 []) (K.getD 1 [])
theorem BO (h:dZ (.n0 k n)=true):k=1:=by
 obtain⟨g,a,-⟩:=m6 h;simp only[PT.k,PT.len]at g a;have s:k=1\/k=2\/k=3\/k=4\/k=5\/k=6:=by omega
 rcases s with rfl|rfl|rfl|rfl|rfl|rfl
 ·rfl
 all_goals exact absurd a (by decide)
theorem BP {t:PT}(h:dZ t=true)(hl:t.len≠0):t.k≠1:=fun e=>by
 obtain⟨-,a,-⟩:=m6 h;rw[e]at a;have:fO 1=0:=rfl;omega
theorem FX {a b:List Rw}{t:PT}{K:List (List Rw)}(g:dZ t=true)(hl:K.length=t.len)(hp:∀j l,K[j]?=some l->cU a b (t.ab j)=some l):cU a b t=rK (jN a b t K):=by
 cases t with
 | n0 k n=>
  have:=BO g;subst this
  rfl
 | n1 k n x=>
  have h1:=BP g (by simp[PT.len]);simp only[PT.k]at h1;obtain⟨l,rfl⟩:∃l,K=[l]:=by
   match K,hl with
   | [l],_=>exact⟨l,rfl⟩
  have:=hp 0 l rfl;simp only[PT.ab]at this;simp[cU,jN,PT.k,PT.n,h1,this]
 | n2 k n x y=>
  have h1:=BP g (by simp[PT.len]);simp only[PT.k]at h1;obtain⟨l,m,rfl⟩:∃l m,K=[l,m]:=by
   match K,hl with
   | [l,m],_=>exact⟨l,m,rfl⟩
  have A:=hp 0 l rfl;have s:=hp 1 m rfl;simp only[PT.ab]at A s;simp[cU,jN,PT.k,PT.n,h1,A,s]
theorem N7 {a b:List It}{t:PT}{K:List (List It)}(g:dZ t=true)(hl:K.length=t.len)(hp:∀j l,K[j]?=some l->dS a b (t.ab j)=some l):dS a b t=sT (tD a b t K):=by
 cases t with
 | n0 k n=>
  have:=BO g;subst this
  rfl
 | n1 k n x=>
  have h1:=BP g (by simp[PT.len]);simp only[PT.k]at h1;obtain⟨l,rfl⟩:∃l,K=[l]:=by
   match K,hl with
   | [l],_=>exact⟨l,rfl⟩
  have:=hp 0 l rfl;simp only[PT.ab]at this;simp[dS,tD,PT.k,PT.n,h1,this]
 | n2 k n x y=>
  have h1:=BP g (by simp[PT.len]);simp only[PT.k]at h1;obtain⟨l,m,rfl⟩:∃l m,K=[l,m]:=by
   match K,hl with
   | [l,m],_=>exact⟨l,m,rfl⟩
  have A:=hp 0 l rfl;have s:=hp 1 m rfl;simp only[PT.ab]at A s;simp[dS,tD,PT.k,PT.n,h1,A,s]
theorem Be {a b:List Rw}{t:PT}(hi:i<t.len)(h:cU a b (t.ab i)=none):cU a b t=none:=by
 cases t with
 | n0 k n=>simp[PT.len]at hi
 | n1 k n x=>simp only[PT.ab]at h;simp[cU,h]
 | n2 k n x y=>
  cases i with
  | zero=>simp only[PT.ab]at h;simp[cU,h]
  | succ i=>simp only[PT.ab]at h;simp[cU,h]
theorem JG {a b:List It}{t:PT}(hi:i<t.len)(h:dS a b (t.ab i)=none):dS a b t=none:=by
 cases t with
 | n0 k n=>simp[PT.len]at hi
 | n1 k n x=>simp only[PT.ab]at h;simp[dS,h]
 | n2 k n x y=>
  cases i with
  | zero=>simp only[PT.ab]at h;simp[dS,h]
  | succ i=>simp only[PT.ab]at h;simp[dS,h]
theorem DY {a b r:List Rw}{t:PT}(h:cU a b t=some r):r.length<=400:=i6 (jA (lU h))
theorem L7 {a b r:List It}{t:PT}(h:dS a b t=some r):r.length<=400:=dF (pN h)
theorem vY {l:List Rw}(h:bH l=true):l.length<=400:=i6 (jA h)
def dK (t:PT):List (List Rw)->Option (List Rw)
 | [a,b]=>if cP t 4&&bH a&&bH b then cU a b t else none
 | _=>none
def gV (t:PT):List (List It)->Option (List It)
 | [a,b]=>if cP t 4&&aX a&&aX b then dS a b t else none
 | _=>none
theorem DF {t:PT}{a b:List Rw}(h:cP t 4=true)(ha:bH a=true)(g:bH b=true):dK t [a,b]=cU a b t:=by simp[dK,h,ha,g]
theorem D9 {t:PT}{a b:List It}(h:cP t 4=true)(ha:aX a=true)(g:aX b=true):gV t [a,b]=dS a b t:=by simp[gV,h,ha,g]
theorem DA {t:PT}{K:List (List Rw)}(h:cP t 4=false):dK t K=none:=by
 unfold dK;split
 ·simp[h]
 ·rfl
theorem K8 {t:PT}{K:List (List It)}(h:cP t 4=false):gV t K=none:=by
 unfold gV;split
 ·simp[h]
 ·rfl
theorem DB {t:PT}{K:List (List Rw)}(h:K.length≠2):dK t K=none:=by
 unfold dK;split
 ·simp at h
 ·rfl
theorem K9 {t:PT}{K:List (List It)}(h:K.length≠2):gV t K=none:=by
 unfold gV;split
 ·simp at h
 ·rfl
theorem DE {t:PT}{K:List (List Rw)}(h:K.all bH=false):dK t K=none:=by
 unfold dK;split
 ·rename_i a b;simp only[gX,iP,gQ]at h;rw[gM,h];simp
 ·rfl
theorem KA {t:PT}{K:List (List It)}(h:K.all aX=false):gV t K=none:=by
 unfold gV;split
 ·rename_i a b;simp only[gX,iP,gQ]at h;rw[gM,h];simp
 ·rfl
theorem nH {t:PT}{K:List (List Rw)}{r:List Rw}(h:dK t K=some r):∃a b,K=[a,b]/\cP t 4=true/\bH a=true/\bH b=true/\cU a b t=some r:=by
 unfold dK at h;split at h
 ·rename_i a b
  split at h
  ·rename_i g;simp only[gD]at g;exact⟨a,b,rfl,g.1.1,g.1.2,g.2,h⟩
  ·cases h
 ·cases h
theorem rJ {α:Type}{K:List α}(h:K.length=2):∃a b,K=[a,b]:=by
 match K,h with
 | [a,b],_=>exact⟨a,b,rfl⟩
def pV (_ _:List Rw)(_:PT):Prop:=True
theorem D7 {a b:List Rw}{t:PT}(_:pV a b t)(_:i<t.len):pV a b (t.ab i):=trivial
def mI (a b:List It):PT->Prop
 | .n0 _ _=>True
 | .n1 _ _ x=>mI a b x/\∀r,dS a b x=some r->aJ r<=1200000
 | .n2 _ _ x y=>(mI a b x/\∀r,dS a b x=some r->aJ r<=1200000)/\mI a b y/\∀r,dS a b y=some r->aJ r<=1200000
theorem En {a b:List It}{t:PT}(h:mI a b t)(hi:i<t.len):mI a b (t.ab i)/\∀r,dS a b (t.ab i)=some r->aJ r<=1200000:=by
 cases t with
 | n0 k n=>simp[PT.len]at hi
 | n1 k n x=>exact h
 | n2 k n x y=>
  cases i with
  | zero=>exact h.1
  | succ i=>exact h.2
theorem K5 {a b:List It}{t:PT}(h:mI a b t)(hi:i<t.len):mI a b (t.ab i):=(En h hi).1
theorem DW {x y:List Rw}(hx:aZ x=true)(a:aZ y=true):(cY x y).length<=160000/\aJ (cY x y)<=2305843009213693952:=by
 have h1:=yT x y;have h2:x.length*y.length<=400*400:=Nat.mul_le_mul (i6 hx) (i6 a);have h3:=AF (oY hx) (oY a);constructor
 ·omega
 ·omega
def xN:Nat->Int
 | 0=>33
 | 1=>33
 | d+2=>xN (d+1)*xN (d+1)
theorem xY:∀d,33<=xN d
 | 0=>by decide
 | 1=>by decide
 | d+2=>by
  have h:=xY (d+1)
  show 33<=xN (d+1)*xN (d+1)
  have:33*1<=xN (d+1)*xN (d+1):=Int.mul_le_mul h (by omega) (by decide) (by omega);omega
theorem Jk {b:Int}(h:33<=b):b+b<=b*b/\b<=b*b/\400<=b*b:=by
 have h1:33*b<=b*b:=Int.mul_le_mul_of_nonneg_right h (by omega);omega
theorem NZ (n:Int){x:List It}(h:aX x=true):aJ (dE n x)<=400:=by
 have h1:∀{m:List It},(∀r∈m,r.2=1)->aJ m<=m.length:=by
  intro m
  induction m with
  | nil=>intro _;simp[aJ]
  | cons q m ih=>
   intro hm;have h2:=ih fun r hr=>hm r (List.mem_cons_of_mem _ hr);have h3:=hm q (List.mem_cons_self ..);simp only[aJ,List.length_cons];rw[h3];omega
 have h2:=h1 fun r hr=>uP (kind:=n) h hr;have h3:=dF (p8 n h);omega
theorem Hw {b:Int}{x y:List It}(hx:aX x=true)(g:aX y=true)(s:33<=b)(h1:aJ x<=b)(h2:aJ y<=b):aJ (Ba k n x y)<=b*b:=by
 obtain⟨s1,s2,s3⟩:=Jk s;unfold Ba
 split
 ·cases a:cG n 1 7
  ·rw[Ej a];simp[aJ];omega
  ·rw[lZ hx a];have:=xL (aP n x);have:=mT n x;omega
 split
 ·have:=Jo x y;omega
 split
 ·rw[yN hx,Ms];omega
 split
 ·rw[uA hx g];have:=xL (eY x y);have:=JE h1 h2;omega
 ·have:=NZ n hx;omega
theorem Jl {d e:Nat}(h:d<=e):xN d<=xN e:=by
 induction e with
 | zero=>
  obtain rfl:d=0:=by omega
  exact Int.le_refl _
 | succ e ih=>
  rcases Nat.lt_or_ge e d with h1|h1
  ·obtain rfl:d=e+1:=by omega
   exact Int.le_refl _
  ·have h2:=ih h1;cases e with
   | zero=>exact h2
   | succ e=>exact Int.le_trans h2 (Jk (xY (e+1))).2.1
end Go.Proofs.YtbdpcngcbnoioaaGreatDoor
