import Derived.Test.YtbdpcngcbnoioaaGreatDoorGpa
import Derived.Test.YtbdpcngcbnoioaaGreatDoorGs7
import Derived.Test.YtbdpcngcbnoioaaGreatDoorGpm
import Derived.Test.YtbdpcngcbnoioaaGreatDoorGlk
namespace Go.Proofs.YtbdpcngcbnoioaaGreatDoor
open Go.RowKit Go.Shelf
open _root_.List renaming take_of_length_le->fD,take_add_one->fH,length_filter_le->fV,take_length->gY,all_eq_true->gZ,mem_filter->iC,mem_append->jU
open Go.RowKit renaming Below->kR
open Go renaming Value->kX,World->lI,Calls->lY
open Go.Proofs.Tryz renaming prog->mF,ntmps152->mJ,ntmps70->nU,func152->oJ,func70->oO
open _root_.Bool renaming and_eq_true->qA,or_eq_true->rN
open Go.RowKit.Below renaming refl->sE
variable {e f g:LI}{r:Bool}{v:kX}{w:lI}{x y:Int}
abbrev Ih (p:Int×Int×kX):List kX:=[.int .i64 p.1,.int .i64 p.2.1,p.2.2]
theorem yN (p:Int×Int×kX):(Ih p).length=3:=rfl
abbrev mA (w:lI)(B:Nat)(v:kX)(l:List (Int×Int×kX)):Prop:=pB Ih 3 25 w B v l
theorem Na:(mF.info? 25).map (fun i=>(i.zero,i.size,i.bytes))=some (some (.agg #[.int .i64 0,.int .i64 0,.slice none 0 0]),3,40):=by kernel_rfl
theorem N5 (k n:Int)(a:Option Addr)(i c:Nat):∀u∈Ih (k,n,.slice a i c),u.oneCell'=true:=by
 intro u s;simp at s;rcases s with rfl|rfl|rfl<;>rfl
theorem mA.at {B g m A:Nat}{l:List (Int×Int×kX)}(h:mA w B (.slice (some ⟨g,0,none⟩) m A) l){i:Nat}{k n:Int}(hi:l[i]?=some (k,n,v)):
  B<=g/\w.cell? ⟨g,i*3,none⟩=some (.int .i64 k)/\w.cell? ⟨g,i*3+1,none⟩=some (.int .i64 n)/\w.cell? ⟨g,i*3+2,none⟩=some v:=by
 rcases gE h yN with⟨h1,_⟩|⟨I,F,c,e,D,a,G,H,hm,hf⟩
 ·cases h1
 ·cases e;have s:i<l.length:=(List.getElem?_eq_some_iff.1 hi).1;have f:=hf i (k,n,v) s hi;exact⟨D,a.cell (by simpa using f 0 (by omega)),a.cell (by simpa using f 1 (by omega)),a.cell (by simpa using f 2 (by omega))⟩
set_option maxRecDepth 100000
set_option maxHeartbeats 16000000
def fE (f:LI)(x y:Int):Bool:=cC f&&dU f x y
theorem xW (h:cC f=true)(x y:Int):fE f x y=dU f x y:=by simp[fE,h]
theorem If {X Y:Int}(h:fE f x y=true)(a:cV x y X Y=true):fE f X Y=true:=by
 unfold fE at h ⊢;rw[qA]at h ⊢;exact⟨h.1,I4 h.2 a⟩
def eQ (f g:LI):Bool:=g.all fun p=>fE f p.1 p.2
theorem uY (h:eQ f g=true)(a:fE g x y=true):fE f x y=true:=by
 unfold fE at a;rw[qA]at a;obtain⟨p,hp,s⟩:=fS.1 a.2;exact If (gZ.1 h p hp) s
theorem FZ (hg:cC g=true)(h:∀x y,fE g x y=true->fE f x y=true):eQ f g=true:=by
 refine gZ.2 fun p hp=>h _ _ ?_;unfold fE;rw[qA];exact⟨hg,fS.2 ⟨p,hp,rG (jP (mH hg) p hp)⟩⟩
def aJ (f:LI)(l:List Rw):List Rw:=l.filter fun r=>!fE f r.1.2.1 r.1.2.2
theorem kD (f:LI)(l:List Rw):(aJ f l).length<=l.length:=fV _ _
theorem AZ {l:List Rw}{k:Nat}{r:Rw}(h:l[k]?=some r):aJ f (l.take (k+1))=aJ f (l.take k)++(if fE f r.1.2.1 r.1.2.2 then [] else [r]):=by
 unfold aJ;rw[take_snoc0 h,List.filter_append];cases a:fE f r.1.2.1 r.1.2.2<;>simp[a]
where
 take_snoc0 {α:Type} {l:List α} {k:Nat} {x:α} (h:l[k]?=some x):l.take (k+1)=l.take k++[x]:=by
  rw[fH,h];rfl
theorem Ah {l:List Rw}(h:aZ l=true)(p:Rw->Bool):aZ (l.filter p)=true:=by
 refine IV ?_ ?_ ?_
 ·exact xY (Nat.le_trans (fV _ _) (fP (j7 h))) fun r hr=>eY (j7 h) (iC.1 hr).1
 ·exact fun r hr=>B6 h r (iC.1 hr).1
 ·exact (yE h).filter _
theorem GB (p:Sp->Bool)(l:List Rw)(s:Sp):aU (l.filter fun r=>p r.1) s=if p s then aU l s else 0:=by
 induction l with
 | nil=>simp[aU]
 | cons r l ih=>
  rw[List.filter_cons]
  by_cases h:r.1=s
  ·subst h;cases hp:p r.1
   ·simp[hp,ih]
   ·simp[hp,aU,ih]
  ·cases hp:p r.1
   ·simp[aU,h,ih]
   ·simp[aU,h,ih]
theorem Bu (f:LI)(l:List Rw)(s:Sp):aU (aJ f l) s=if fE f s.2.1 s.2.2 then 0 else aU l s:=by
 have:=GB (fun s=>!fE f s.2.1 s.2.2) l s;unfold aJ;rw[this];cases fE f s.2.1 s.2.2<;>simp
structure SS where
 t:PT
 K:List (List Rw)
 f:LI
 d:List Rw
def dI (s:SS):Option (List Rw):=if cC s.f then (dG s.t s.K).bind fun r=>if aJ s.f r=s.d then some r else none else none
theorem dS {s:SS}{r:List Rw}:dI s=some r↔cC s.f=true/\dG s.t s.K=some r/\aJ s.f r=s.d:=by
 unfold dI;cases hf:cC s.f
 ·simp
 ·simp only[if_true,true_and,Option.bind_eq_some_iff];constructor
  ·rintro⟨q,h1,h2⟩
   split at h2
   ·cases h2;exact⟨h1,by assumption⟩
   ·cases h2
  ·rintro⟨h1,h2⟩;exact⟨r,h1,by rw[if_pos h2]⟩
def iN (f g:LI)(r:List Rw):List Rw:=r.filter fun q=>fE f q.1.2.1 q.1.2.2&&!fE g q.1.2.1 q.1.2.2
def pX (s:SS)(g:LI):Option (SS×List Rw):=(dI s).bind fun r=>if cC g&&eQ s.f g then some (⟨s.t,s.K,g,aJ g r⟩,iN s.f g r) else none
theorem mX {s s':SS}{m:List Rw}:pX s g=some (s',m)↔∃r,dI s=some r/\cC g=true/\eQ s.f g=true/\s'=⟨s.t,s.K,g,aJ g r⟩/\m=iN s.f g r:=by
 unfold pX;rw[Option.bind_eq_some_iff];constructor
 ·rintro⟨r,h1,h2⟩
  split at h2
  ·rename_i a;rw[qA]at a;cases h2;exact⟨r,h1,a.1,a.2,rfl,rfl⟩
  ·cases h2
 ·rintro⟨r,h1,h2,h3,rfl,rfl⟩;exact⟨r,h1,by simp[h2,h3]⟩
def jS (K:List (List Rw))(i:Nat)(l:List Rw):List (List Rw):=K.set i (aP aQ (K.getD i []++l))
def rU (s:SS)(i:Int)(l:List Rw):Option SS:=
 if (dI s).isSome&&cH i 0 1&&aZ l&&decide (aJ s.f l=[]) then
  (let s':SS:=⟨s.t,jS s.K i.toNat l,s.f,s.d⟩
   if (dI s').isSome then some s' else none)
 else none
theorem xL {l:List Rw}(h:aZ l=true):aZ (aJ f l)=true:=Ah h _
theorem lW {l:List Rw}(h:aZ l=true):aZ (iN f g l)=true:=Ah h _
theorem uS (f g:LI)(l:List Rw)(s:Sp):aU (iN f g l) s=if fE f s.2.1 s.2.2&&!fE g s.2.1 s.2.2 then aU l s else 0:=GB (fun s=>fE f s.2.1 s.2.2&&!fE g s.2.1 s.2.2) l s
theorem Ju (l:List Rw)(s:Sp):aU (dY l) s =-aU l s:=by unfold dY;exact Bb l s
theorem E3 {r:List Rw}(hr:aZ r=true)(h:eQ f g=true):aP aQ (aJ g r++dA (aJ f r))=iN f g r:=by
 rw[LU (xL hr)];refine (nJ eE (yE (lW hr)) (B6 (lW hr)) fun s=>?_).symm;rw[iQ,Ju,Bu,Bu,uS];have hs:=uY (x:=s.2.1) (y:=s.2.2) h;cases hg:fE g s.2.1 s.2.2
 ·cases hf:fE f s.2.1 s.2.2<;>simp<;>omega
 ·rw[hs hg];simp
theorem Fr {a b m:List Rw}(ha:aZ a=true)(s:aZ b=true)(hm:aZ m=true)(h:aP aQ (a++b)=m):iY a b=m:=by
 unfold iY;rw[j7 ha,j7 s];simp only[Bool.and_self,if_true];rw[BO (by rw[h];exact j7 hm),h]
theorem II {r:List Rw}(hr:aZ r=true)(h:eQ f g=true):iY (aJ g r) (dA (aJ f r))=iN f g r:=
 Fr (xL hr) (wW _) (lW hr) (E3 hr h)
theorem Kw {h:LI}{r:List Rw}(hr:aZ r=true)(h1:eQ f h=true)(h2:eQ h g=true):iY (iN f h r) (iN h g r)=iN f g r:=by
 refine Fr (lW hr) (lW hr) (lW hr) ?_;refine (nJ eE (yE (lW hr)) (B6 (lW hr)) fun s=>?_).symm;rw[iQ,uS,uS,uS];have s1:=uY (x:=s.2.1) (y:=s.2.2) h1;have s2:=uY (x:=s.2.1) (y:=s.2.2) h2;cases hg:fE g s.2.1 s.2.2
 ·cases a:fE h s.2.1 s.2.2
  ·cases hf:fE f s.2.1 s.2.2<;>simp
  ·rw[s1 a];simp
 ·rw[s2 hg,s1 (s2 hg)];simp
def rS (f g e:LI):LI:=cK (g++eO f e)
theorem yK (f g e:LI):cC (rS f g e)=true:=xO _
theorem G3 (hg:cC g=true)(x y:Int):dU (rS f g e) x y=(dU g x y||dU (eO f e) x y):=by
 unfold rS;rw[xK (aok_append (mH hg) (mH (AO f e)))];rw[Bool.eq_iff_iff,rN];simp only[fS,jU];constructor
 ·rintro⟨p,hp|hp,hl⟩
  ·exact .inl ⟨p,hp,hl⟩
  ·exact .inr ⟨p,hp,hl⟩
 ·rintro (⟨p,hp,hl⟩|⟨p,hp,hl⟩)
  ·exact⟨p,.inl hp,hl⟩
  ·exact⟨p,.inr hp,hl⟩
where
 aok_append {a b:LI} (ha:fW a=true) (s:fW b=true):fW (a++b)=true:=Ap fun p hp=>by
  rcases jU.1 hp with h|h
  ·exact jP ha p h
  ·exact jP s p h
theorem K9 (hf:cC f=true)(h:dU (eO f e) x y=true):dU f x y=true:=by
 cases a:cC e
 ·rw[AR a]at h;simp[JI]at h
 ·rw[Kq hf a,qA]at h;exact h.1
theorem NT (hf:cC f=true)(hg:cC g=true)(h:eQ f g=true):eQ f (rS f g e)=true:=
 FZ (yK _ _ _) fun x y a=>by
  rw[xW (yK _ _ _),G3 hg,rN]at a
  rcases a with a|a
  ·exact uY h (by rw[xW hg];exact a)
  ·rw[xW hf];exact K9 hf a
theorem NF (hg:cC g=true):eQ (rS f g e) g=true:=
 FZ hg fun x y a=>by
  rw[xW (yK _ _ _),G3 hg];rw[xW hg]at a;rw[a];rfl
open Go.RowKit Go.Shelf
abbrev sv (k n:Int)(sp si sf sd:kX):kX:= .agg #[.int .i64 k,.int .i64 n,sp,si,sf,sd]
abbrev sc (k n:Int)(sp si sf sd:kX):Array kX:=#[.int .i64 k,.int .i64 n,sp,si,sf,sd]
abbrev bM:kX:= .slice none 0 0
structure bY (w:lI)(sp si sf sd:kX)(s:SS):Prop where
 kd:cZ 0 w s.t sp
 ly:eG w si s.K
 ts:Ts w sf s.f
 rs:Rs w sd s.d
theorem bY.keep {w1:lI}{A B D F:kX}{s:SS}(h:bY w A B D F s)(a:kR w.heap.size w w1):bY w1 A B D F s:=⟨h.kd.keep a,h.ly.keep a,h.ts.keep a,h.rs.keep a⟩
theorem bY.sl {G H I J:kX}{s:SS}(h:bY w G H I J s):∃F a D c1 B c2 A c3,G=.slice F s.t.len a/\H=.slice D s.K.length c1/\I=.slice B s.f.length c2/\J=.slice A s.d.length c3:=by
 obtain⟨F,a,e0⟩:=h.kd.sl;obtain⟨D,c1,N⟩:=h.ly.sl;obtain⟨B,c2,M,-⟩:=h.ts;obtain⟨A,c3,L,-⟩:=Rs.open h.rs;exact⟨F,a,D,c1,B,c2,A,c3,e0,N,M,L⟩
theorem Bk.aY {k:Nat}{F D B A s a:kX}{t:TypeId}(h:Bk w k #[F,D,B,A,s,a] t):
  w.cell? ⟨k,0,none⟩=some F/\w.cell? ⟨k,1,none⟩=some D/\w.cell? ⟨k,2,none⟩=some B/\w.cell? ⟨k,3,none⟩=some A/\w.cell? ⟨k,4,none⟩=some s/\w.cell? ⟨k,5,none⟩=some a:=by
 unfold Bk at h;simp[lI.cell?,h]
theorem qN (h:fE f x y=r)(s:Ts w v f):lY mF 29 #[v,tv x y] w fun e a=>e=.returned (.bool r)/\kR w.heap.size w a:=Cn h s
theorem nQ (h:fE f x y=r)(s:Ts w v f):lY mF 62 #[v,tv x y] w fun e a=>e=.returned (.bool r)/\kR w.heap.size w a:=Ct h s
theorem tQ (fv lv:kX)(f:LI)(l:List Rw)(w:lI)(hf:Ts w fv f)(hl:Rs w lv l)(v2:l.length<=1000000):
  lY mF 83 #[fv,lv] w fun e w'=>∃o:kX,e=.returned o/\aD w' w.heap.size o (aJ f l)/\kR w.heap.size w w':=by
 have HT:=(show Hid (Ts w fv f) from hf);obtain⟨af,z9,rfl,-,-,-,-⟩:=hf;obtain⟨a,v5,rfl,hc,hm,hn,H⟩:=Rs.open hl;unfold maxLen at hm;have HC:=(show Hid _ from H);have o0:aD w w.heap.size (.slice none 0 0) []:=oN _ _ _ _ _;clear H hl;go_enter Tryz.func83,Tryz.ntmps83;go_wp2_with fail
 go_loopw [5,10] (fun o i wr=>∃k:Nat,k<=l.length/\i=.int .i64 k/\aD wr w.heap.size o (aJ f (l.take k))/\kR w.heap.size w wr) (fun _ i _=>l.length-(intOf i).toNat)
 case atStart=>exact⟨0,by omega,rfl,o0,sE _ _⟩
 case round=>
  clear o0;obtain⟨k,v4,rfl,N,G⟩:=hrel;have U:Hid (aD wr w.heap.size u5 (aJ f (l.take k))):=N;clear N
  by_cases y9:k<l.length
  ·obtain⟨g,off,K,V,A,B,D,rfl,hg,hr,c0,c1,c2,c3,c4⟩:=HC.out k y9;have T:=(show Hid _ from AZ (f:=f) hr);have d0:=cB G c0;have d1:=cB G c1;have d2:=cB G c2;have d3:=cB G c3;have d4:=cB G c4;have hL:(aJ f (l.take k)).length<=2000000:=by have:=kD f (l.take k);simp at this;omega
   have ik:((k:Int)<(l.length:Int)):=by omega
   have M:=Bk.new (w:=wr) #[.int .i64 K,.int .i64 V,.int .i64 A,.int .i64 B,.int .i64 D] 55 rfl;have Y:kR wr.heap.size wr (wr.alloc (.cells #[.int .i64 K,.int .i64 V,.int .i64 A,.int .i64 B,.int .i64 D] 55)):=aG (sE _ _) _;have I:=aH G Y;have S:Hid (aD (wr.alloc (.cells #[.int .i64 K,.int .i64 V,.int .i64 A,.int .i64 B,.int .i64 D] 55)) w.heap.size u5 (aJ f (l.take k))):=U.out.alloc _;have Q:=HT.out.keep I;obtain⟨x0,x1,x2,x3,x4⟩:=M.aa;have v0:=G.size;clear c0 c1 c2 c3 c4 hr U G Y;cases F:fE f A B
   ·rw[F]at T;go_wp2_with fail;generalize wr.heap.size=tb at*;generalize lI.alloc _ _=wt at*;refine (qN F Q).mono ?_;rintro e Z ⟨rfl,s⟩;have z5:=M.keep s;have J:=aH I s;have R:aD Z w.heap.size u5 (aJ f (l.take k)):=bJ S.out s;obtain⟨y0,y1,y2,y3,y4⟩:=z5.aa;have v1:=J.size;clear d0 d1 d2 d3 d4 S M Q I F x0 x1 x2 x3 x4 s;generalize aJ f (l.take k)=L at*
    go_wp2_with (at_builtin;refine jZ _ rfl _ _ rfl w.heap.size _ _ rfl (R.alloc _) _ _ _ _ _ _ rfl (Bk.new _ _ rfl) (by omega) (by simp;omega) ?_;intro g7 u0 w7 h9 O v3)
    have z0:kR w.heap.size w w7:=Below.aO (aG J _) O (by simp;omega) (oB R);go_roundw
    case rel=>
     refine⟨k+1,by omega,by go_num,?_,z0⟩;rw[T.out];exact h9
    case measure=>simp[intOf];omega
   ·rw[F]at T;go_wp2_with fail;generalize lI.alloc _ _=wt at*;refine (qN F Q).mono ?_;rintro e Z ⟨rfl,s⟩;have J:=aH I s;have R:aD Z w.heap.size u5 (aJ f (l.take k)):=bJ S.out s;clear d0 d1 d2 d3 d4 S M Q I F x0 x1 x2 x3 x4 s;go_wp2_with fail;go_roundw
    case rel=>
     refine⟨k+1,by omega,by go_num,?_,J⟩;rw[T.out];simpa using R
    case measure=>simp[intOf];omega
  ·obtain rfl:k=l.length:=by omega
   have ik:¬((l.length:Int)<(l.length:Int)):=by omega
   rw[gY]at U;go_wp2_with fail;go_ret;exact⟨_,rfl,U.out,G⟩
theorem rH (lv Z:kX)(f:LI)(l:List Rw)(w:lI)(hl:Rs w lv l)(hf:Ts w Z f)(z0:l.length<=1000000):
  lY mF 71 #[lv,Z] w fun e w'=>∃o:kX,e=.returned o/\aD w' w.heap.size o (aJ f l)/\kR w.heap.size w w':=by
 have HT:=(show Hid (Ts w Z f) from hf);obtain⟨af,x8,rfl,-,-,-,-⟩:=hf;obtain⟨a,z3,rfl,hc,hm,hn,H⟩:=Rs.open hl;unfold maxLen at hm;have HC:=(show Hid _ from H);have o0:=dW w rfl;have T:=aG (sE w.heap.size w) (.cells #[] 55);clear H hl;go_enter Tryz.func71,Tryz.ntmps71;go_wp2_with fail
 go_loopw [5,6] (fun o i wr=>∃k:Nat,k<=l.length/\i=.int .i64 k/\aD wr w.heap.size o (aJ f (l.take k))/\kR w.heap.size w wr) (fun _ i _=>l.length-(intOf i).toNat)
 case atStart=>exact⟨0,by omega,rfl,o0,T⟩
 case round=>
  clear o0 T;obtain⟨k,z2,rfl,M,G⟩:=hrel;have J:Hid (aD wr w.heap.size u5 (aJ f (l.take k))):=M;clear M
  by_cases x2:k<l.length
  ·obtain⟨g,off,K,V,A,B,D,rfl,hg,hr,c0,c1,c2,c3,c4⟩:=HC.out k x2;have S:=(show Hid _ from AZ (f:=f) hr);have d2:=cB G c2;have d3:=cB G c3;have HX:Hid (∀W,kR w.heap.size w W->W.cell? ⟨g,off+k*5,none⟩=some (.int .i64 K)/\W.cell? ⟨g,off+k*5+1,none⟩=some (.int .i64 V)/\W.cell? ⟨g,off+k*5+2,none⟩=some (.int .i64 A)/\W.cell? ⟨g,off+k*5+3,none⟩=some (.int .i64 B)/\W.cell? ⟨g,off+k*5+4,none⟩=some (.int .i64 D)):=
    fun W N=>⟨cB N c0,cB N c1,cB N c2,cB N c3,cB N c4⟩
   have hL:(aJ f (l.take k)).length<=2000000:=by have:=kD f (l.take k);simp at this;omega
   have ik:((k:Int)<(l.length:Int)):=by omega
   have Q:=HT.out.keep G;have y8:=G.size;clear c0 c1 c2 c3 c4 hr;cases F:fE f A B
   ·rw[F]at S;go_wp2_with fail;refine (nQ F Q).mono ?_;rintro e U ⟨rfl,s⟩;have I:=aH G s;have R:aD U w.heap.size u5 (aJ f (l.take k)):=bJ J.out s;obtain⟨y0,y1,y2,y3,y4⟩:=HX.out _ I;have y9:=I.size;clear d2 d3 J Q G F s;generalize aJ f (l.take k)=L at*
    go_wp2_with (at_builtin;refine jZ _ rfl _ _ rfl w.heap.size _ _ rfl (R.alloc _) _ _ _ _ _ _ rfl (Bk.new _ _ rfl) (by omega) (by simp;omega) ?_;intro g7 x9 w7 Y O z1)
    have x3:kR w.heap.size w w7:=Below.aO (aG I _) O (by simp;omega) (oB R);go_roundw
    case rel=>
     refine⟨k+1,by omega,by go_num,?_,x3⟩;rw[S.out];exact Y
    case measure=>simp[intOf];omega
   ·rw[F]at S;go_wp2_with fail;refine (nQ F Q).mono ?_;rintro e U ⟨rfl,s⟩;have I:=aH G s;have R:aD U w.heap.size u5 (aJ f (l.take k)):=bJ J.out s;clear d2 d3 J Q G F s;go_wp2_with fail;go_roundw
    case rel=>
     refine⟨k+1,by omega,by go_num,?_,I⟩;rw[S.out];simpa using R
    case measure=>simp[intOf];omega
  ·obtain rfl:k=l.length:=by omega
   have ik:¬((l.length:Int)<(l.length:Int)):=by omega
   rw[gY]at J;go_wp2_with fail;go_ret;exact⟨_,rfl,J.out,G⟩
attribute [local go_sem ↓] Go.wp_at_zero Go.wp_at_succ
theorem Hm (v u:kX)(l m:List Rw)(w:lI)(h:Rs w v l)(h':Rs w u m):
  lY mF 152 #[v,u] w fun e w'=>e=.returned (.bool (decide (l=m)))/\kR w.heap.size w w':=by
 obtain⟨a,c,rfl,hc,hm,hn,L⟩:=Rs.open h;obtain⟨a',c',rfl,z5,U,z1,J⟩:=Rs.open h';unfold maxLen at hm U;have HC:=(show Hid _ from L);have x5:=(show Hid _ from J);clear L J h h'
 by_cases I:l.length=m.length
 ·have x3:Hid (l.length=m.length):=I;have h9:((l.length:Int)==(m.length:Int))=true:=by simp[I]
  have Z:(l.length==m.length)=true:=by simp[I]
  have z2:l.length<=m.length:=by omega
  clear I;go_enter oJ,mJ;go_wp2_with fail
  go_loopw [13] (fun i wr=>∃k:Nat,k<=l.length/\i=.int .i64 k/\l.take k=m.take k/\kR w.heap.size w wr) (fun i _=>l.length-(intOf i).toNat)
  case atStart=>exact⟨0,by omega,rfl,by simp,sE _ _⟩
  case round=>
   obtain⟨k,z3,rfl,M,G⟩:=hrel;have N:Hid (l.take k=m.take k):=M;clear M
   by_cases Y:k<l.length
   ·obtain⟨g,off,K,V,A,B,D,rfl,hg,hr,c0,c1,c2,c3,c4⟩:=HC.out k Y;obtain⟨g2,x7,K2,V2,A2,B2,D2,rfl,z4,s,T,S,R,Q,O⟩:=x5.out k (by omega);have ik:((k:Int)<(l.length:Int)):=by omega
    have z0:((k:Int)<(m.length:Int)):=by omega
    have d0:=cB G c0;have f0:=cB G T;have d1:=cB G c1;have f1:=cB G S;have d2:=cB G c2;have f2:=cB G R;have d3:=cB G c3;have f3:=cB G Q;have d4:=cB G c4;have f4:=cB G O;clear c0 c1 c2 c3 c4 T S R Q O
    by_cases hK:K=K2
    case neg=>
     have H:Hid (decide (l=m)=false):=decide_eq_false fun e=>by rw[e,s]at hr;simp at hr;omega
     clear hr s;go_wp2_with fail
     go_quiet (fail)
     have F:kR w.heap.size w (wr.drewN nq):=dC G _;go_wp2_with fail;go_ret;exact⟨by have h:=H.out;simp_all,F⟩
    by_cases hV:V=V2
    case neg=>
     have H:Hid (decide (l=m)=false):=decide_eq_false fun e=>by rw[e,s]at hr;simp at hr;omega
     clear hr s;go_wp2_with fail
     go_quiet (fail)
     have F:kR w.heap.size w (wr.drewN nq):=dC G _;go_wp2_with fail;go_ret;exact⟨by have h:=H.out;simp_all,F⟩
    by_cases hA:A=A2
    case neg=>
     have H:Hid (decide (l=m)=false):=decide_eq_false fun e=>by rw[e,s]at hr;simp at hr;omega
     clear hr s;go_wp2_with fail
     go_quiet (fail)
     have F:kR w.heap.size w (wr.drewN nq):=dC G _;go_wp2_with fail;go_ret;exact⟨by have h:=H.out;simp_all,F⟩
    by_cases hB:B=B2
    case neg=>
     have H:Hid (decide (l=m)=false):=decide_eq_false fun e=>by rw[e,s]at hr;simp at hr;omega
     clear hr s;go_wp2_with fail
     go_quiet (fail)
     have F:kR w.heap.size w (wr.drewN nq):=dC G _;go_wp2_with fail;go_ret;exact⟨by have h:=H.out;simp_all,F⟩
    by_cases hD:D=D2
    case neg=>
     have H:Hid (decide (l=m)=false):=decide_eq_false fun e=>by rw[e,s]at hr;simp at hr;omega
     clear hr s;go_wp2_with fail
     go_quiet (fail)
     have F:kR w.heap.size w (wr.drewN nq):=dC G _;go_wp2_with fail;go_ret;exact⟨by have h:=H.out;simp_all,F⟩
    subst hK hV hA hB hD;have x2:Hid (l.take (k+1)=m.take (k+1)):=by show _=_;rw[fH,fH,hr,s,N.out]
    clear hr s;go_wp2_with fail
    go_quiet (fail)
    have F:kR w.heap.size w (wr.drewN nq):=dC G _;go_wp2_with fail;go_roundw
    case rel=>exact⟨k+1,by omega,by go_num,x2.out,F⟩
    case measure=>simp[intOf];omega
   ·have x4:Hid (decide (l=m)=true):=decide_eq_true (by have h1:=N.out;have h2:=x3.out;rw[fD (by omega),fD (by omega)]at h1;exact h1);have ik:¬((k:Int)<(l.length:Int)):=by omega
    go_wp2_with fail;go_ret;exact⟨by have h:=x4.out;simp_all,G⟩
 ·have H:Hid (decide (l=m)=false):=decide_eq_false fun e=>I (by rw[e]);have h9:((l.length:Int)==(m.length:Int))=false:=beq_eq_false_iff_ne.2 (by omega);have Z:(l.length==m.length)=false:=beq_eq_false_iff_ne.2 I;go_enter oJ,mJ;go_wp2_with fail;go_ret;exact⟨by have h:=H.out;simp_all,sE _ _⟩
theorem Er (v u:kX)(l m:List Rw)(w:lI)(h:Rs w v l)(h':Rs w u m):
  lY mF 70 #[v,u] w fun e w'=>e=.returned (.bool (decide (l=m)))/\kR w.heap.size w w':=by
 obtain⟨a,c,rfl,hc,hm,hn,L⟩:=Rs.open h;obtain⟨a',c',rfl,z5,U,z1,J⟩:=Rs.open h';unfold maxLen at hm U;have HC:=(show Hid _ from L);have x5:=(show Hid _ from J);clear L J h h'
 by_cases I:l.length=m.length
 ·have x3:Hid (l.length=m.length):=I;have h9:((l.length:Int)==(m.length:Int))=true:=by simp[I]
  have Z:(l.length==m.length)=true:=by simp[I]
  have z2:l.length<=m.length:=by omega
  clear I;go_enter oO,nU;go_wp2_with fail
  go_loopw [5] (fun i wr=>∃k:Nat,k<=l.length/\i=.int .i64 k/\l.take k=m.take k/\kR w.heap.size w wr) (fun i _=>l.length-(intOf i).toNat)
  case atStart=>exact⟨0,by omega,rfl,by simp,sE _ _⟩
  case round=>
   obtain⟨k,z3,rfl,M,G⟩:=hrel;have N:Hid (l.take k=m.take k):=M;clear M
   by_cases Y:k<l.length
   ·obtain⟨g,off,K,V,A,B,D,rfl,hg,hr,c0,c1,c2,c3,c4⟩:=HC.out k Y;obtain⟨g2,x7,K2,V2,A2,B2,D2,rfl,z4,s,T,S,R,Q,O⟩:=x5.out k (by omega);have ik:((k:Int)<(l.length:Int)):=by omega
    have z0:((k:Int)<(m.length:Int)):=by omega
    have d0:=cB G c0;have f0:=cB G T;have d1:=cB G c1;have f1:=cB G S;have d2:=cB G c2;have f2:=cB G R;have d3:=cB G c3;have f3:=cB G Q;have d4:=cB G c4;have f4:=cB G O;clear c0 c1 c2 c3 c4 T S R Q O
    by_cases hK:K=K2
    case neg=>
     have H:Hid (decide (l=m)=false):=decide_eq_false fun e=>by rw[e,s]at hr;simp at hr;omega
     clear hr s;go_wp2_with fail
     go_quiet (fail)
     have F:kR w.heap.size w (wr.drewN nq):=dC G _;go_wp2_with fail;go_ret;exact⟨by have h:=H.out;simp_all,F⟩
    by_cases hV:V=V2
    case neg=>
     have H:Hid (decide (l=m)=false):=decide_eq_false fun e=>by rw[e,s]at hr;simp at hr;omega
     clear hr s;go_wp2_with fail
     go_quiet (fail)
     have F:kR w.heap.size w (wr.drewN nq):=dC G _;go_wp2_with fail;go_ret;exact⟨by have h:=H.out;simp_all,F⟩
    by_cases hA:A=A2
    case neg=>
     have H:Hid (decide (l=m)=false):=decide_eq_false fun e=>by rw[e,s]at hr;simp at hr;omega
     clear hr s;go_wp2_with fail
     go_quiet (fail)
     have F:kR w.heap.size w (wr.drewN nq):=dC G _;go_wp2_with fail;go_ret;exact⟨by have h:=H.out;simp_all,F⟩
    by_cases hB:B=B2
    case neg=>
     have H:Hid (decide (l=m)=false):=decide_eq_false fun e=>by rw[e,s]at hr;simp at hr;omega
     clear hr s;go_wp2_with fail
     go_quiet (fail)
     have F:kR w.heap.size w (wr.drewN nq):=dC G _;go_wp2_with fail;go_ret;exact⟨by have h:=H.out;simp_all,F⟩
    by_cases hD:D=D2
    case neg=>
     have H:Hid (decide (l=m)=false):=decide_eq_false fun e=>by rw[e,s]at hr;simp at hr;omega
     clear hr s;go_wp2_with fail
     go_quiet (fail)
     have F:kR w.heap.size w (wr.drewN nq):=dC G _;go_wp2_with fail;go_ret;exact⟨by have h:=H.out;simp_all,F⟩
    subst hK hV hA hB hD;have x2:Hid (l.take (k+1)=m.take (k+1)):=by show _=_;rw[fH,fH,hr,s,N.out]
    clear hr s;go_wp2_with fail
    go_quiet (fail)
    have F:kR w.heap.size w (wr.drewN nq):=dC G _;go_wp2_with fail;go_roundw
    case rel=>exact⟨k+1,by omega,by go_num,x2.out,F⟩
    case measure=>simp[intOf];omega
   ·have x4:Hid (decide (l=m)=true):=decide_eq_true (by have h1:=N.out;have h2:=x3.out;rw[fD (by omega),fD (by omega)]at h1;exact h1);have ik:¬((k:Int)<(l.length:Int)):=by omega
    go_wp2_with fail;go_ret;exact⟨by have h:=x4.out;simp_all,G⟩
 ·have H:Hid (decide (l=m)=false):=decide_eq_false fun e=>I (by rw[e]);have h9:((l.length:Int)==(m.length:Int))=false:=beq_eq_false_iff_ne.2 (by omega);have Z:(l.length==m.length)=false:=beq_eq_false_iff_ne.2 I;go_enter oO,nU;go_wp2_with fail;go_ret;exact⟨by have h:=H.out;simp_all,sE _ _⟩
theorem CF {l m:List Rw}(h:decide (l=m)=r){u:kX}(h1:Rs w v l)(h2:Rs w u m):lY mF 152 #[v,u] w fun e a=>e=.returned (.bool r)/\kR w.heap.size w a:=by
 rw[<- h];exact Hm v u l m w h1 h2
theorem Gs {l m:List Rw}(h:decide (l=m)=r){u:kX}(h1:Rs w v l)(h2:Rs w u m):lY mF 70 #[v,u] w fun e a=>e=.returned (.bool r)/\kR w.heap.size w a:=by
 rw[<- h];exact Er v u l m w h1 h2
end Go.Proofs.YtbdpcngcbnoioaaGreatDoor
