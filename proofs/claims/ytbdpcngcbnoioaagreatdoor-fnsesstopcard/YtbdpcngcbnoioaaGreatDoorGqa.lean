import Derived.Test.YtbdpcngcbnoioaaGreatDoorGpa
import Derived.Test.YtbdpcngcbnoioaaGreatDoorGs7
import Derived.Test.YtbdpcngcbnoioaaGreatDoorGpm
import Derived.Test.YtbdpcngcbnoioaaGreatDoorGlk
namespace Go.Proofs.YtbdpcngcbnoioaaGreatDoor
open Go.RowKit Go.Shelf
open _root_.List renaming take_of_length_le->fM,take_add_one->fQ,length_filter_le->gD,take_length->gM,mem_filter->gQ
open Go.RowKit renaming Below->gX
open Go renaming Value->iM,World->iP,Calls->jB
open Go.Proofs.Tryz renaming prog->jO,ntmps152->mO,ntmps70->nA,func152->nB,func70->nT
open Go.RowKit.Below renaming refl->nX
open _root_.Bool renaming and_eq_true->oU
variable {f g:LI}{r:Bool}{v:iM}{w:iP}{x y:Int}
abbrev L6 (p:Int×Int×iM):List iM:=[.int .i64 p.1,.int .i64 p.2.1,p.2.2]
theorem CL (p:Int×Int×iM):(L6 p).length=3:=rfl
abbrev oF (w:iP)(B:Nat)(v:iM)(l:List (Int×Int×iM)):Prop:=pY L6 3 25 w B v l
theorem Px:(jO.info? 25).map (fun i=>(i.zero,i.size,i.bytes))=some (some (.agg #[.int .i64 0,.int .i64 0,.slice none 0 0]),3,40):=by kernel_rfl
theorem QD (k n:Int)(a:Option Addr)(i c:Nat):∀u∈L6 (k,n,.slice a i c),u.oneCell'=true:=by
 intro u s;simp at s;rcases s with rfl|rfl|rfl<;>rfl
theorem oF.at {B g m A:Nat}{l:List (Int×Int×iM)}(h:oF w B (.slice (some ⟨g,0,none⟩) m A) l){i:Nat}{k n:Int}(hi:l[i]?=some (k,n,v)):
  B<=g/\w.cell? ⟨g,i*3,none⟩=some (.int .i64 k)/\w.cell? ⟨g,i*3+1,none⟩=some (.int .i64 n)/\w.cell? ⟨g,i*3+2,none⟩=some v:=by
 rcases fX h CL with⟨h1,_⟩|⟨J,G,c,e,D,a,H,I,hm,hf⟩
 ·cases h1
 ·cases e;have s:i<l.length:=(List.getElem?_eq_some_iff.1 hi).1;have f:=hf i (k,n,v) s hi;exact⟨D,a.cell (by simpa using f 0 (by omega)),a.cell (by simpa using f 1 (by omega)),a.cell (by simpa using f 2 (by omega))⟩
set_option maxRecDepth 100000
set_option maxHeartbeats 16000000
def fY (f:LI)(x y:Int):Bool:=dA f&&iN f x y
theorem D3 {X Y:Int}(h:fY f x y=true)(a:cX x y X Y=true):fY f X Y=true:=by
 unfold fY at h ⊢;rw[oU]at h ⊢;exact⟨h.1,Jd h.2 a⟩
def mQ (f g:LI):Bool:=g.all fun p=>fY f p.1 p.2
theorem MI (h:mQ f g=true)(a:fY g x y=true):fY f x y=true:=by
 unfold fY at a;rw[oU]at a;obtain⟨p,hp,s⟩:=lO.1 a.2;exact D3 (List.all_eq_true.1 h p hp) s
def aV (f:LI)(l:List Rw):List Rw:=l.filter fun r=>!fY f r.1.2.1 r.1.2.2
theorem lS (f:LI)(l:List Rw):(aV f l).length<=l.length:=gD _ _
theorem As {l:List Rw}{k:Nat}{r:Rw}(h:l[k]?=some r):aV f (l.take (k+1))=aV f (l.take k)++(if fY f r.1.2.1 r.1.2.2 then [] else [r]):=by
 unfold aV;rw[take_snoc0 h,List.filter_append];cases a:fY f r.1.2.1 r.1.2.2<;>simp[a]
where
 take_snoc0 {α:Type} {l:List α} {k:Nat} {x:α} (h:l[k]?=some x):l.take (k+1)=l.take k++[x]:=by
  rw[fQ,h];rfl
theorem B0 {l:List Rw}(h:bH l=true)(p:Rw->Bool):bH (l.filter p)=true:=by
 refine Jn ?_ ?_ ?_
 ·exact vT (Nat.le_trans (gD _ _) (i6 (jA h))) fun r hr=>eZ (jA h) (gQ.1 hr).1
 ·exact fun r hr=>EZ h r (gQ.1 hr).1
 ·exact (Bs h).filter _
theorem IG (p:Sp->Bool)(l:List Rw)(s:Sp):aK (l.filter fun r=>p r.1) s=if p s then aK l s else 0:=by
 induction l with
 | nil=>simp[aK]
 | cons r l ih=>
  rw[List.filter_cons]
  by_cases h:r.1=s
  ·subst h;cases hp:p r.1
   ·simp[hp,ih]
   ·simp[hp,aK,ih]
  ·cases hp:p r.1
   ·simp[aK,h,ih]
   ·simp[aK,h,ih]
theorem Cr (f:LI)(l:List Rw)(s:Sp):aK (aV f l) s=if fY f s.2.1 s.2.2 then 0 else aK l s:=by
 have:=IG (fun s=>!fY f s.2.1 s.2.2) l s;unfold aV;rw[this];cases fY f s.2.1 s.2.2<;>simp
structure SS where
 t:PT
 K:List (List Rw)
 f:LI
 d:List Rw
def dI (s:SS):Option (List Rw):=if dA s.f then (dK s.t s.K).bind fun r=>if aV s.f r=s.d then some r else none else none
theorem fW {s:SS}{r:List Rw}:dI s=some r↔dA s.f=true/\dK s.t s.K=some r/\aV s.f r=s.d:=by
 unfold dI;cases hf:dA s.f
 ·simp
 ·simp only[if_true,true_and,Option.bind_eq_some_iff];constructor
  ·rintro⟨q,h1,h2⟩
   split at h2
   ·cases h2;exact⟨h1,by assumption⟩
   ·cases h2
  ·rintro⟨h1,h2⟩;exact⟨r,h1,by rw[if_pos h2]⟩
def qT (f g:LI)(r:List Rw):List Rw:=r.filter fun q=>fY f q.1.2.1 q.1.2.2&&!fY g q.1.2.1 q.1.2.2
def FJ (s:SS)(g:LI):Option (SS×List Rw):=(dI s).bind fun r=>if dA g&&mQ s.f g then some (⟨s.t,s.K,g,aV g r⟩,qT s.f g r) else none
theorem FL {s s':SS}{m:List Rw}:FJ s g=some (s',m)↔∃r,dI s=some r/\dA g=true/\mQ s.f g=true/\s'=⟨s.t,s.K,g,aV g r⟩/\m=qT s.f g r:=by
 unfold FJ;rw[Option.bind_eq_some_iff];constructor
 ·rintro⟨r,h1,h2⟩
  split at h2
  ·rename_i a;rw[oU]at a;cases h2;exact⟨r,h1,a.1,a.2,rfl,rfl⟩
  ·cases h2
 ·rintro⟨r,h1,h2,h3,rfl,rfl⟩;exact⟨r,h1,by simp[h2,h3]⟩
def j9 (s:SS)(x y:Int):Option (List It):=if (dI s).isSome&&bM x y&&!fY s.f x y then some (aM s.d x y) else none
def kL (K:List (List Rw))(i:Nat)(l:List Rw):List (List Rw):=K.set i (aO aW (K.getD i []++l))
def sW (s:SS)(i:Int)(l:List Rw):Option SS:=
 if (dI s).isSome&&cG i 0 1&&bH l&&decide (aV s.f l=[]) then
  (let s':SS:=⟨s.t,kL s.K i.toNat l,s.f,s.d⟩
   if (dI s').isSome then some s' else none)
 else none
theorem xX {l:List Rw}(h:bH l=true):bH (aV f l)=true:=B0 h _
theorem FH {l:List Rw}(h:bH l=true):bH (qT f g l)=true:=B0 h _
theorem Mp (f g:LI)(l:List Rw)(s:Sp):aK (qT f g l) s=if fY f s.2.1 s.2.2&&!fY g s.2.1 s.2.2 then aK l s else 0:=IG (fun s=>fY f s.2.1 s.2.2&&!fY g s.2.1 s.2.2) l s
theorem Mu (l:List Rw)(s:Sp):aK (eQ l) s =-aK l s:=by unfold eQ;exact Ca l s
theorem Mo {r:List Rw}(hr:bH r=true)(h:mQ f g=true):aO aW (aV g r++dW (aV f r))=qT f g r:=by
 rw[FC (xX hr)];refine (n8 fG (Bs (FH hr)) (EZ (FH hr)) fun s=>?_).symm;rw[eI,Mu,Cr,Cr,Mp];have hs:=MI (x:=s.2.1) (y:=s.2.2) h;cases hg:fY g s.2.1 s.2.2
 ·cases hf:fY f s.2.1 s.2.2<;>simp<;>omega
 ·rw[hs hg];simp
theorem M8 {r:List Rw}(h:fY f x y=false):c9 (aV f r) x y=c9 r x y:=by
 unfold c9 aV;rw[List.filter_filter]
 congr 1
 refine List.filter_congr fun q _=>?_;cases hl:cX q.1.2.1 q.1.2.2 x y
 ·simp
 ·cases a:fY f q.1.2.1 q.1.2.2
  ·simp
  ·rw[D3 a hl]at h;cases h
theorem GM {r:List Rw}(hr:bH r=true)(h:fY f x y=false):aM (aV f r) x y=aM r x y:=by
 unfold aM;rw[jA hr,jA (xX hr),M8 h]
open Go.RowKit Go.Shelf
abbrev sv (k n:Int)(sp si sf sd:iM):iM:= .agg #[.int .i64 k,.int .i64 n,sp,si,sf,sd]
abbrev sc (k n:Int)(sp si sf sd:iM):Array iM:=#[.int .i64 k,.int .i64 n,sp,si,sf,sd]
abbrev dM:iM:= .slice none 0 0
structure gE (w:iP)(sp si sf sd:iM)(s:SS):Prop where
 kd:dN 0 w s.t sp
 ly:eS w si s.K
 ts:Ts w sf s.f
 rs:Rs w sd s.d
theorem gE.keep {w1:iP}{A B D G:iM}{s:SS}(h:gE w A B D G s)(a:gX w.heap.size w w1):gE w1 A B D G s:=⟨h.kd.keep a,h.ly.keep a,h.ts.keep a,h.rs.keep a⟩
theorem gE.sl {H I J L:iM}{s:SS}(h:gE w H I J L s):∃G a D c1 B c2 A c3,H=.slice G s.t.len a/\I=.slice D s.K.length c1/\J=.slice B s.f.length c2/\L=.slice A s.d.length c3:=by
 obtain⟨G,a,e0⟩:=h.kd.sl;obtain⟨D,c1,Q⟩:=h.ly.sl;obtain⟨B,c2,O,-⟩:=h.ts;obtain⟨A,c3,M,-⟩:=Rs.open h.rs;exact⟨G,a,D,c1,B,c2,A,c3,e0,Q,O,M⟩
theorem Bk.ae {k:Nat}{G D B A s a:iM}{t:TypeId}(h:Bk w k #[G,D,B,A,s,a] t):
  w.cell? ⟨k,0,none⟩=some G/\w.cell? ⟨k,1,none⟩=some D/\w.cell? ⟨k,2,none⟩=some B/\w.cell? ⟨k,3,none⟩=some A/\w.cell? ⟨k,4,none⟩=some s/\w.cell? ⟨k,5,none⟩=some a:=by
 unfold Bk at h;simp[iP.cell?,h]
theorem rT (h:fY f x y=r)(s:Ts w v f):jB jO 29 #[v,tv x y] w fun e a=>e=.returned (.bool r)/\gX w.heap.size w a:=Di h s
theorem jY (h:fY f x y=r)(s:Ts w v f):jB jO 62 #[v,tv x y] w fun e a=>e=.returned (.bool r)/\gX w.heap.size w a:=E4 h s
theorem zX (fv lv:iM)(f:LI)(l:List Rw)(w:iP)(hf:Ts w fv f)(hl:Rs w lv l)(w1:l.length<=1000000):
  jB jO 83 #[fv,lv] w fun e w'=>∃o:iM,e=.returned o/\aC w' w.heap.size o (aV f l)/\gX w.heap.size w w':=by
 have HT:=(show Hid (Ts w fv f) from hf);obtain⟨af,v4,rfl,-,-,-,-⟩:=hf;obtain⟨a,w5,rfl,hc,hm,hn,I⟩:=Rs.open hl;unfold maxLen at hm;have HC:=(show Hid _ from I);have o0:aC w w.heap.size (.slice none 0 0) []:=oN _ _ _ _ _;clear I hl;go_enter Tryz.func83,Tryz.ntmps83;go_wp2_with fail
 go_loopw [5,10] (fun o i wr=>∃k:Nat,k<=l.length/\i=.int .i64 k/\aC wr w.heap.size o (aV f (l.take k))/\gX w.heap.size w wr) (fun _ i _=>l.length-(intOf i).toNat)
 case atStart=>exact⟨0,by omega,rfl,o0,nX _ _⟩
 case round=>
  clear o0;obtain⟨k,w4,rfl,Q,H⟩:=hrel;have Z:Hid (aC wr w.heap.size u5 (aV f (l.take k))):=Q;clear Q
  by_cases z3:k<l.length
  ·obtain⟨g,off,K,V,A,B,D,rfl,hg,hr,c0,c1,c2,c3,c4⟩:=HC.out k z3;have Y:=(show Hid _ from As (f:=f) hr);have d0:=cB H c0;have d1:=cB H c1;have d2:=cB H c2;have d3:=cB H c3;have d4:=cB H c4;have hL:(aV f (l.take k)).length<=2000000:=by have:=lS f (l.take k);simp at this;omega
   have ik:((k:Int)<(l.length:Int)):=by omega
   have O:=Bk.new (w:=wr) #[.int .i64 K,.int .i64 V,.int .i64 A,.int .i64 B,.int .i64 D] 55 rfl;have h9:gX wr.heap.size wr (wr.alloc (.cells #[.int .i64 K,.int .i64 V,.int .i64 A,.int .i64 B,.int .i64 D] 55)):=aH (nX _ _) _;have J:=aG H h9;have U:Hid (aC (wr.alloc (.cells #[.int .i64 K,.int .i64 V,.int .i64 A,.int .i64 B,.int .i64 D] 55)) w.heap.size u5 (aV f (l.take k))):=Z.out.alloc _;have S:=HT.out.keep J;obtain⟨x0,x1,x2,x3,x4⟩:=O.ag;have v8:=H.size;clear c0 c1 c2 c3 c4 hr Z H h9;cases G:fY f A B
   ·rw[G]at Y;go_wp2_with fail;generalize wr.heap.size=tb at*;generalize iP.alloc _ _=wt at*;refine (rT G S).mono ?_;rintro e w3 ⟨rfl,s⟩;have v0:=O.keep s;have M:=aG J s;have T:aC w3 w.heap.size u5 (aV f (l.take k)):=cC U.out s;obtain⟨y0,y1,y2,y3,y4⟩:=v0.ag;have v9:=M.size;clear d0 d1 d2 d3 d4 U O S J G x0 x1 x2 x3 x4 s;generalize aV f (l.take k)=L at*
    go_wp2_with (at_builtin;refine kR _ rfl _ _ rfl w.heap.size _ _ rfl (T.alloc _) _ _ _ _ _ _ rfl (Bk.new _ _ rfl) (by omega) (by simp;omega) ?_;intro g7 v5 w7 x6 R w2)
    have z4:gX w.heap.size w w7:=Below.aU (aH M _) R (by simp;omega) (bU T);go_roundw
    case rel=>
     refine⟨k+1,by omega,by go_num,?_,z4⟩;rw[Y.out];exact x6
    case measure=>simp[intOf];omega
   ·rw[G]at Y;go_wp2_with fail;generalize iP.alloc _ _=wt at*;refine (rT G S).mono ?_;rintro e w3 ⟨rfl,s⟩;have M:=aG J s;have T:aC w3 w.heap.size u5 (aV f (l.take k)):=cC U.out s;clear d0 d1 d2 d3 d4 U O S J G x0 x1 x2 x3 x4 s;go_wp2_with fail;go_roundw
    case rel=>
     refine⟨k+1,by omega,by go_num,?_,M⟩;rw[Y.out];simpa using T
    case measure=>simp[intOf];omega
  ·obtain rfl:k=l.length:=by omega
   have ik:¬((l.length:Int)<(l.length:Int)):=by omega
   rw[gM]at Z;go_wp2_with fail;go_ret;exact⟨_,rfl,Z.out,H⟩
theorem sX (lv fv:iM)(f:LI)(l:List Rw)(w:iP)(hl:Rs w lv l)(hf:Ts w fv f)(z4:l.length<=1000000):
  jB jO 71 #[lv,fv] w fun e w'=>∃o:iM,e=.returned o/\aC w' w.heap.size o (aV f l)/\gX w.heap.size w w':=by
 have HT:=(show Hid (Ts w fv f) from hf);obtain⟨af,y5,rfl,-,-,-,-⟩:=hf;obtain⟨a,z8,rfl,hc,hm,hn,I⟩:=Rs.open hl;unfold maxLen at hm;have HC:=(show Hid _ from I);have o0:=lT w rfl;have Y:=aH (nX w.heap.size w) (.cells #[] 55);clear I hl;go_enter Tryz.func71,Tryz.ntmps71;go_wp2_with fail
 go_loopw [5,6] (fun o i wr=>∃k:Nat,k<=l.length/\i=.int .i64 k/\aC wr w.heap.size o (aV f (l.take k))/\gX w.heap.size w wr) (fun _ i _=>l.length-(intOf i).toNat)
 case atStart=>exact⟨0,by omega,rfl,o0,Y⟩
 case round=>
  clear o0 Y;obtain⟨k,z7,rfl,O,H⟩:=hrel;have M:Hid (aC wr w.heap.size u5 (aV f (l.take k))):=O;clear O
  by_cases x4:k<l.length
  ·obtain⟨g,off,K,V,A,B,D,rfl,hg,hr,c0,c1,c2,c3,c4⟩:=HC.out k x4;have U:=(show Hid _ from As (f:=f) hr);have d2:=cB H c2;have d3:=cB H c3;have HX:Hid (∀W,gX w.heap.size w W->W.cell? ⟨g,off+k*5,none⟩=some (.int .i64 K)/\W.cell? ⟨g,off+k*5+1,none⟩=some (.int .i64 V)/\W.cell? ⟨g,off+k*5+2,none⟩=some (.int .i64 A)/\W.cell? ⟨g,off+k*5+3,none⟩=some (.int .i64 B)/\W.cell? ⟨g,off+k*5+4,none⟩=some (.int .i64 D)):=
    fun W Q=>⟨cB Q c0,cB Q c1,cB Q c2,cB Q c3,cB Q c4⟩
   have hL:(aV f (l.take k)).length<=2000000:=by have:=lS f (l.take k);simp at this;omega
   have ik:((k:Int)<(l.length:Int)):=by omega
   have S:=HT.out.keep H;have z1:=H.size;clear c0 c1 c2 c3 c4 hr;cases G:fY f A B
   ·rw[G]at U;go_wp2_with fail;refine (jY G S).mono ?_;rintro e Z ⟨rfl,s⟩;have J:=aG H s;have T:aC Z w.heap.size u5 (aV f (l.take k)):=cC M.out s;obtain⟨y0,y1,y2,y3,y4⟩:=HX.out _ J;have z3:=J.size;clear d2 d3 M S H G s;generalize aV f (l.take k)=L at*
    go_wp2_with (at_builtin;refine kR _ rfl _ _ rfl w.heap.size _ _ rfl (T.alloc _) _ _ _ _ _ _ rfl (Bk.new _ _ rfl) (by omega) (by simp;omega) ?_;intro g7 y6 w7 h9 R z5)
    have x5:gX w.heap.size w w7:=Below.aU (aH J _) R (by simp;omega) (bU T);go_roundw
    case rel=>
     refine⟨k+1,by omega,by go_num,?_,x5⟩;rw[U.out];exact h9
    case measure=>simp[intOf];omega
   ·rw[G]at U;go_wp2_with fail;refine (jY G S).mono ?_;rintro e Z ⟨rfl,s⟩;have J:=aG H s;have T:aC Z w.heap.size u5 (aV f (l.take k)):=cC M.out s;clear d2 d3 M S H G s;go_wp2_with fail;go_roundw
    case rel=>
     refine⟨k+1,by omega,by go_num,?_,J⟩;rw[U.out];simpa using T
    case measure=>simp[intOf];omega
  ·obtain rfl:k=l.length:=by omega
   have ik:¬((l.length:Int)<(l.length:Int)):=by omega
   rw[gM]at M;go_wp2_with fail;go_ret;exact⟨_,rfl,M.out,H⟩
attribute [local go_sem ↓] Go.wp_at_zero Go.wp_at_succ
theorem IX (v u:iM)(l m:List Rw)(w:iP)(h:Rs w v l)(h':Rs w u m):
  jB jO 152 #[v,u] w fun e w'=>e=.returned (.bool (decide (l=m)))/\gX w.heap.size w w':=by
 obtain⟨a,c,rfl,hc,hm,hn,M⟩:=Rs.open h;obtain⟨a',c',rfl,v0,Z,z5,L⟩:=Rs.open h';unfold maxLen at hm Z;have HC:=(show Hid _ from M);have x7:=(show Hid _ from L);clear M L h h'
 by_cases J:l.length=m.length
 ·have x5:Hid (l.length=m.length):=J;have x1:((l.length:Int)==(m.length:Int))=true:=by simp[J]
  have x0:(l.length==m.length)=true:=by simp[J]
  have z7:l.length<=m.length:=by omega
  clear J;go_enter nB,mO;go_wp2_with fail
  go_loopw [13] (fun i wr=>∃k:Nat,k<=l.length/\i=.int .i64 k/\l.take k=m.take k/\gX w.heap.size w wr) (fun i _=>l.length-(intOf i).toNat)
  case atStart=>exact⟨0,by omega,rfl,by simp,nX _ _⟩
  case round=>
   obtain⟨k,z8,rfl,O,H⟩:=hrel;have Q:Hid (l.take k=m.take k):=O;clear O
   by_cases h9:k<l.length
   ·obtain⟨g,off,K,V,A,B,D,rfl,hg,hr,c0,c1,c2,c3,c4⟩:=HC.out k h9;obtain⟨g2,x9,K2,V2,A2,B2,D2,rfl,z9,s,Y,U,T,S,R⟩:=x7.out k (by omega);have ik:((k:Int)<(l.length:Int)):=by omega
    have z4:((k:Int)<(m.length:Int)):=by omega
    have d0:=cB H c0;have f0:=cB H Y;have d1:=cB H c1;have f1:=cB H U;have d2:=cB H c2;have f2:=cB H T;have d3:=cB H c3;have f3:=cB H S;have d4:=cB H c4;have f4:=cB H R;clear c0 c1 c2 c3 c4 Y U T S R
    by_cases hK:K=K2
    case neg=>
     have I:Hid (decide (l=m)=false):=decide_eq_false fun e=>by rw[e,s]at hr;simp at hr;omega
     clear hr s;go_wp2_with fail
     go_quiet (fail)
     have G:gX w.heap.size w (wr.drewN nq):=dV H _;go_wp2_with fail;go_ret;exact⟨by have h:=I.out;simp_all,G⟩
    by_cases hV:V=V2
    case neg=>
     have I:Hid (decide (l=m)=false):=decide_eq_false fun e=>by rw[e,s]at hr;simp at hr;omega
     clear hr s;go_wp2_with fail
     go_quiet (fail)
     have G:gX w.heap.size w (wr.drewN nq):=dV H _;go_wp2_with fail;go_ret;exact⟨by have h:=I.out;simp_all,G⟩
    by_cases hA:A=A2
    case neg=>
     have I:Hid (decide (l=m)=false):=decide_eq_false fun e=>by rw[e,s]at hr;simp at hr;omega
     clear hr s;go_wp2_with fail
     go_quiet (fail)
     have G:gX w.heap.size w (wr.drewN nq):=dV H _;go_wp2_with fail;go_ret;exact⟨by have h:=I.out;simp_all,G⟩
    by_cases hB:B=B2
    case neg=>
     have I:Hid (decide (l=m)=false):=decide_eq_false fun e=>by rw[e,s]at hr;simp at hr;omega
     clear hr s;go_wp2_with fail
     go_quiet (fail)
     have G:gX w.heap.size w (wr.drewN nq):=dV H _;go_wp2_with fail;go_ret;exact⟨by have h:=I.out;simp_all,G⟩
    by_cases hD:D=D2
    case neg=>
     have I:Hid (decide (l=m)=false):=decide_eq_false fun e=>by rw[e,s]at hr;simp at hr;omega
     clear hr s;go_wp2_with fail
     go_quiet (fail)
     have G:gX w.heap.size w (wr.drewN nq):=dV H _;go_wp2_with fail;go_ret;exact⟨by have h:=I.out;simp_all,G⟩
    subst hK hV hA hB hD;have x4:Hid (l.take (k+1)=m.take (k+1)):=by show _=_;rw[fQ,fQ,hr,s,Q.out]
    clear hr s;go_wp2_with fail
    go_quiet (fail)
    have G:gX w.heap.size w (wr.drewN nq):=dV H _;go_wp2_with fail;go_roundw
    case rel=>exact⟨k+1,by omega,by go_num,x4.out,G⟩
    case measure=>simp[intOf];omega
   ·have x6:Hid (decide (l=m)=true):=decide_eq_true (by have h1:=Q.out;have h2:=x5.out;rw[fM (by omega),fM (by omega)]at h1;exact h1);have ik:¬((k:Int)<(l.length:Int)):=by omega
    go_wp2_with fail;go_ret;exact⟨by have h:=x6.out;simp_all,H⟩
 ·have I:Hid (decide (l=m)=false):=decide_eq_false fun e=>J (by rw[e]);have x1:((l.length:Int)==(m.length:Int))=false:=beq_eq_false_iff_ne.2 (by omega);have x0:(l.length==m.length)=false:=beq_eq_false_iff_ne.2 J;go_enter nB,mO;go_wp2_with fail;go_ret;exact⟨by have h:=I.out;simp_all,nX _ _⟩
theorem GZ (v u:iM)(l m:List Rw)(w:iP)(h:Rs w v l)(h':Rs w u m):
  jB jO 70 #[v,u] w fun e w'=>e=.returned (.bool (decide (l=m)))/\gX w.heap.size w w':=by
 obtain⟨a,c,rfl,hc,hm,hn,M⟩:=Rs.open h;obtain⟨a',c',rfl,v0,Z,z5,L⟩:=Rs.open h';unfold maxLen at hm Z;have HC:=(show Hid _ from M);have x7:=(show Hid _ from L);clear M L h h'
 by_cases J:l.length=m.length
 ·have x5:Hid (l.length=m.length):=J;have x1:((l.length:Int)==(m.length:Int))=true:=by simp[J]
  have x0:(l.length==m.length)=true:=by simp[J]
  have z7:l.length<=m.length:=by omega
  clear J;go_enter nT,nA;go_wp2_with fail
  go_loopw [5] (fun i wr=>∃k:Nat,k<=l.length/\i=.int .i64 k/\l.take k=m.take k/\gX w.heap.size w wr) (fun i _=>l.length-(intOf i).toNat)
  case atStart=>exact⟨0,by omega,rfl,by simp,nX _ _⟩
  case round=>
   obtain⟨k,z8,rfl,O,H⟩:=hrel;have Q:Hid (l.take k=m.take k):=O;clear O
   by_cases h9:k<l.length
   ·obtain⟨g,off,K,V,A,B,D,rfl,hg,hr,c0,c1,c2,c3,c4⟩:=HC.out k h9;obtain⟨g2,x9,K2,V2,A2,B2,D2,rfl,z9,s,Y,U,T,S,R⟩:=x7.out k (by omega);have ik:((k:Int)<(l.length:Int)):=by omega
    have z4:((k:Int)<(m.length:Int)):=by omega
    have d0:=cB H c0;have f0:=cB H Y;have d1:=cB H c1;have f1:=cB H U;have d2:=cB H c2;have f2:=cB H T;have d3:=cB H c3;have f3:=cB H S;have d4:=cB H c4;have f4:=cB H R;clear c0 c1 c2 c3 c4 Y U T S R
    by_cases hK:K=K2
    case neg=>
     have I:Hid (decide (l=m)=false):=decide_eq_false fun e=>by rw[e,s]at hr;simp at hr;omega
     clear hr s;go_wp2_with fail
     go_quiet (fail)
     have G:gX w.heap.size w (wr.drewN nq):=dV H _;go_wp2_with fail;go_ret;exact⟨by have h:=I.out;simp_all,G⟩
    by_cases hV:V=V2
    case neg=>
     have I:Hid (decide (l=m)=false):=decide_eq_false fun e=>by rw[e,s]at hr;simp at hr;omega
     clear hr s;go_wp2_with fail
     go_quiet (fail)
     have G:gX w.heap.size w (wr.drewN nq):=dV H _;go_wp2_with fail;go_ret;exact⟨by have h:=I.out;simp_all,G⟩
    by_cases hA:A=A2
    case neg=>
     have I:Hid (decide (l=m)=false):=decide_eq_false fun e=>by rw[e,s]at hr;simp at hr;omega
     clear hr s;go_wp2_with fail
     go_quiet (fail)
     have G:gX w.heap.size w (wr.drewN nq):=dV H _;go_wp2_with fail;go_ret;exact⟨by have h:=I.out;simp_all,G⟩
    by_cases hB:B=B2
    case neg=>
     have I:Hid (decide (l=m)=false):=decide_eq_false fun e=>by rw[e,s]at hr;simp at hr;omega
     clear hr s;go_wp2_with fail
     go_quiet (fail)
     have G:gX w.heap.size w (wr.drewN nq):=dV H _;go_wp2_with fail;go_ret;exact⟨by have h:=I.out;simp_all,G⟩
    by_cases hD:D=D2
    case neg=>
     have I:Hid (decide (l=m)=false):=decide_eq_false fun e=>by rw[e,s]at hr;simp at hr;omega
     clear hr s;go_wp2_with fail
     go_quiet (fail)
     have G:gX w.heap.size w (wr.drewN nq):=dV H _;go_wp2_with fail;go_ret;exact⟨by have h:=I.out;simp_all,G⟩
    subst hK hV hA hB hD;have x4:Hid (l.take (k+1)=m.take (k+1)):=by show _=_;rw[fQ,fQ,hr,s,Q.out]
    clear hr s;go_wp2_with fail
    go_quiet (fail)
    have G:gX w.heap.size w (wr.drewN nq):=dV H _;go_wp2_with fail;go_roundw
    case rel=>exact⟨k+1,by omega,by go_num,x4.out,G⟩
    case measure=>simp[intOf];omega
   ·have x6:Hid (decide (l=m)=true):=decide_eq_true (by have h1:=Q.out;have h2:=x5.out;rw[fM (by omega),fM (by omega)]at h1;exact h1);have ik:¬((k:Int)<(l.length:Int)):=by omega
    go_wp2_with fail;go_ret;exact⟨by have h:=x6.out;simp_all,H⟩
 ·have I:Hid (decide (l=m)=false):=decide_eq_false fun e=>J (by rw[e]);have x1:((l.length:Int)==(m.length:Int))=false:=beq_eq_false_iff_ne.2 (by omega);have x0:(l.length==m.length)=false:=beq_eq_false_iff_ne.2 J;go_enter nT,nA;go_wp2_with fail;go_ret;exact⟨by have h:=I.out;simp_all,nX _ _⟩
theorem D6 {l m:List Rw}(h:decide (l=m)=r){u:iM}(h1:Rs w v l)(h2:Rs w u m):jB jO 152 #[v,u] w fun e a=>e=.returned (.bool r)/\gX w.heap.size w a:=by
 rw[<- h];exact IX v u l m w h1 h2
theorem Iu {l m:List Rw}(h:decide (l=m)=r){u:iM}(h1:Rs w v l)(h2:Rs w u m):jB jO 70 #[v,u] w fun e a=>e=.returned (.bool r)/\gX w.heap.size w a:=by
 rw[<- h];exact GZ v u l m w h1 h2
end Go.Proofs.YtbdpcngcbnoioaaGreatDoor
