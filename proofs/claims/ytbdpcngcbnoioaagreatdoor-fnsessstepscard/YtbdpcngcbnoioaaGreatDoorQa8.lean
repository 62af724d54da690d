import Derived.Test.YtbdpcngcbnoioaaGreatDoorGpa
import Derived.Test.YtbdpcngcbnoioaaGreatDoorGlk
import Derived.Test.YtbdpcngcbnoioaaGreatDoorQa7
import Derived.Test.YtbdpcngcbnoioaaGreatDoorGmr
import Derived.Laws.OwnMore
set_option maxRecDepth 100000
set_option maxHeartbeats 40000000
namespace Go.Proofs.YtbdpcngcbnoioaaGreatDoor
open Go.RowKit
open Go renaming bodyPost_ret->fD,Calls->fH,World->fV,Value->gY
open Go.Proofs.Tryz renaming results124->gZ,prog->iC,ntmps124->jU,func124->kR
open Go.RowKit.Below renaming refl->kX
open Go.Calls renaming mono->lI
variable {B cap d g n q:Nat}{W w:fV}{k p:Int}{t:TypeId}{v x0 x1 x2:gY}
theorem Np {x:PT}{s:gY}{K N:Int}(hx:cZ B W x s)(a:B<=W.heap.size):cZ B (W.alloc (.cells #[.int .i64 x.k,.int .i64 x.n,s] 25)) (.n1 K N x) (.slice (some ⟨W.heap.size,0,none⟩) 1 1):=by
 obtain⟨h0,h1,h2⟩:=(pU W x.k x.n s).aK;exact⟨W.heap.size,0,1,s,rfl,a,h0,h1,h2,hx.keep (aG (kX _ _) _)⟩
theorem Bk.dz {k:Nat}{D s a:gY}(h:Bk w k #[x0,x1,x2,D,s,a] t):w.cell? ⟨k,0,none⟩=some x0/\w.cell? ⟨k,1,none⟩=some x1/\w.cell? ⟨k,2,none⟩=some x2/\w.cell? ⟨k,3,none⟩=some D/\w.cell? ⟨k,4,none⟩=some s/\w.cell? ⟨k,5,none⟩=some a:=by
 unfold Bk at h;simp[fV.cell?,h]
theorem OL {x y:PT}{s u:gY}{K N:Int}(hx:cZ B W x s)(a:cZ B W y u)(F:B<=W.heap.size):cZ B (W.alloc (.cells #[.int .i64 x.k,.int .i64 x.n,s,.int .i64 y.k,.int .i64 y.n,u] 25)) (.n2 K N x y) (.slice (some ⟨W.heap.size,0,none⟩) 2 2):=by
 have D:Bk (W.alloc (.cells #[.int .i64 x.k,.int .i64 x.n,s,.int .i64 y.k,.int .i64 y.n,u] 25)) W.heap.size #[.int .i64 x.k,.int .i64 x.n,s,.int .i64 y.k,.int .i64 y.n,u] 25:=Bk.new _ _ rfl;obtain⟨h0,h1,h2,h3,h4,h5⟩:=D.dz;exact⟨W.heap.size,0,2,s,u,rfl,F,h0,h1,h2,h3,h4,h5,hx.keep (aG (kX _ _) _),a.keep (aG (kX _ _) _)⟩
abbrev Js (W:fV)(q:Nat)(a b c:gY):fV:=((W.setCell ⟨q,0,none⟩ a).setCell ⟨q,1,none⟩ b).setCell ⟨q,2,none⟩ c
theorem Bk.bf (h:Bk W q #[x0,x1,x2] t)(a b c:gY):Bk (Js W q a b c) q #[a,b,c] t:=((h.set 0 a).set 1 b).set 2 c
theorem Bk.cP (h:Bk W q #[x0,x1,x2] t):W.frozen? ⟨q,0,none⟩=false/\W.frozen? ⟨q,1,none⟩=false/\W.frozen? ⟨q,2,none⟩=false:=by
 unfold Bk at h;simp[fV.frozen?,h]
def CZ (dd:Nat)(t:PT):Prop:=dd=0\/d7 t dd=true
def xQ (B:Nat)(w:fV)(g:Nat)(v:gY)(n:Nat)(p m b:Int)(dd:Nat)(e:Ending)(w':fV):Prop:=
 ∃(t:PT)(a:Option Addr)(i c:Nat),e=.returned (pl t.k t.n (.slice a i c))/\t.sm/\(t.n<=b/\CZ dd t)/\cZ w.heap.size w' t (.slice a i c)/\(∃p':Int,p<=p'/\p'<=p+m/\Rd B w' g v n p')/\Bx g w w'
theorem rY {q m b:Int}{D:Nat}{t:PT}{a:Option Addr}{i c:Nat}(F:cZ (w.heap.size+1) W t (.slice a i c))(s:t.sm)(hn:t.n<=b/\CZ D t)(hg:g<w.heap.size)(H:B<=w.heap.size)(hr:Rd B W g v n q)(hx:Bx g w W)(h1:p<=q)(h2:q<=p+m):
  xQ B w g v n p m b D (.returned (pl t.k t.n (.slice a i c))) (Js W w.heap.size (.int .i64 t.k) (.int .i64 t.n) (.slice a i c)):=by
 have G:Bx w.heap.size W (Js W w.heap.size (.int .i64 t.k) (.int .i64 t.n) (.slice a i c)):=(((Bx.refl w.heap.size W).ae (p:=⟨w.heap.size,0,none⟩) rfl _).ae (p:=⟨w.heap.size,1,none⟩) rfl _).ae (p:=⟨w.heap.size,2,none⟩) rfl _;refine⟨t,a,i,c,rfl,s,hn,(F.aN G (by omega)).less (by omega),⟨q,h1,h2,?_⟩,?_⟩
 ·exact ((hr.apart (by simp;omega) (by simp;omega) _).apart (by simp;omega) (by simp;omega) _).apart (by simp;omega) (by simp;omega) _
 ·exact ((hx.aC (by simp) _).aC (by simp) _).aC (by simp) _
theorem EK (a:Nat)(h0:0<=k)(h1:k<2):CZ a (.n0 1 k):=by
 cases a with
 | zero=>exact .inl rfl
 | succ d=>right;simp[d7,dT,cH,fA,eN,eP,PT.k,PT.len,PT.n];omega
theorem BW {n:Int}{x:PT}(hd:d≠0)(hx:CZ d x)(h:dT (.n1 k n x)=true):CZ (d+1) (.n1 k n x):=by
 right;simp only[d7,h,Bool.true_and];exact hx.resolve_left hd
theorem Fz {n:Int}{x y:PT}(hd:d≠0)(hx:CZ d x)(a:CZ d y)(h:dT (.n2 k n x y)=true):CZ (d+1) (.n2 k n x y):=by
 right;simp only[d7,h,Bool.true_and,hx.resolve_left hd,a.resolve_left hd]
def sL:Nat->Int
 | 0=>1
 | d+1=>3+2*sL d
theorem yF (d:Nat):1<=sL d:=by
 induction d with
 | zero=>simp[sL]
 | succ d ih=>simp only[sL];omega
theorem wU {m:Int}{a:Int}(G:Nat)(hd:a<2)(hm:1<=m)(h:Rd B w g v n p)(hp:0<=p)(T:p<=900000):
  fH iC 124 #[.pointer (some ⟨g,0,none⟩),.int .i64 a] w (xQ B w g v n p m 9 G):=by
 have hg:=h.blk.lt;have hs:=h.size;have Z:=h.here;have h0:=h.aX (aG (kX _ _) (.cells #[.int .i64 0,.int .i64 0,.slice none 0 0] 25));have R:Bk (w.alloc (.cells #[.int .i64 0,.int .i64 0,.slice none 0 0] 25)) w.heap.size #[.int .i64 0,.int .i64 0,.slice none 0 0] 25:=Bk.new _ _ rfl;have x0:Bx g w (w.alloc (.cells #[.int .i64 0,.int .i64 0,.slice none 0 0] 25)):=(Bx.refl _ _).alloc _;have S:(w.alloc (.cells #[.int .i64 0,.int .i64 0,.slice none 0 0] 25)).heap.size=w.heap.size+1:=by simp
 go_enter kR,jU;go_wp2_with fail;refine (pA h0 (by omega) (by omega) _ (by omega) (by omega)).mono ?_;rintro e w1 ⟨k,rfl,Q,O,F,s⟩;have H:=R.aN s (by omega);have D:=(H);obtain⟨f0,f1,f2⟩:=D.cP;obtain⟨Y,V,U⟩:=D.aK;obtain⟨M,J,I⟩:=(D.bf (.int .i64 1) (.int .i64 k) (.slice none 0 0)).aK;have HF:=(show Hid _ from rY (p:=p) (m:=m) (b:=9) (t:=PT.n0 1 k) (show cZ _ _ _ (.slice none 0 0) from⟨none,0,rfl⟩) (show (0<=k/\k<=99) by omega) ⟨show (k:Int)<=9 by omega,EK G Q O⟩ hg hs F (x0.trans s) (by omega) (by omega));go_wp2_with fail;refine fD (v:=pl 1 k (.slice none 0 0)) (by simp[results,gZ,go_sem,M,J,I];try first|rfl|exact⟨rfl,rfl⟩) rfl ?_
 exact HF.out
theorem Du (hd:1<=d)(b3:d<=4)(h:Rd B w g v n p)(hp:0<=p)(b2:p+3+2*sL d<=900000)
  (u4:∀(W:fV)(q:Int),Rd B W g v n q->0<=q->q+sL d<=900000->fH iC 124 #[.pointer (some ⟨g,0,none⟩),.int .i64 d] W (xQ B W g v n q (sL d) 9 d)):
  fH iC 124 #[.pointer (some ⟨g,0,none⟩),.int .i64 ((d:Int)+1)] w (xQ B w g v n p (3+2*sL d) 9 (d+1)):=by
 have hg:=h.blk.lt;have hs:=h.size;have hh:=h.here;have h0:=h.aX (aG (kX _ _) (.cells #[.int .i64 0,.int .i64 0,.slice none 0 0] 25));have br:Bk (w.alloc (.cells #[.int .i64 0,.int .i64 0,.slice none 0 0] 25)) w.heap.size #[.int .i64 0,.int .i64 0,.slice none 0 0] 25:=Bk.new _ _ rfl;have x0:Bx g w (w.alloc (.cells #[.int .i64 0,.int .i64 0,.slice none 0 0] 25)):=(Bx.refl _ _).alloc _;have v9:(w.alloc (.cells #[.int .i64 0,.int .i64 0,.slice none 0 0] 25)).heap.size=w.heap.size+1:=by simp
 have b1:=yF d;have y3:d≠0:=by omega
 have h2:¬((d:Int)+1<2):=by omega
 have b4:(d:Int)+1-1=(d:Int):=by omega
 have HR:=(show Hid _ from u4);clear u4;generalize sL d=st at*;go_enter kR,jU;go_wp2_with fail;refine (pA h0 (by omega) (by omega) _ (by omega) (by omega)).mono ?_;rintro e w1 ⟨k,rfl,k0,k1,v0,y8⟩;have v4:=br.aN y8 (by omega);have y5:=x0.trans y8;have a1:=y8.size;rw[v9]at a1;clear x0 y8 br h0 v9
 by_cases hk:k=0
 ·subst hk;go_wp2_with fail;refine (pA v0 (by omega) (by omega) _ (by omega) (by omega)).mono ?_;rintro e w2 ⟨j,rfl,j0,j1,T,x3⟩;have V:=v4.aN x3 (by omega);have D:=(V);obtain⟨f0,f1,f2⟩:=D.cP;obtain⟨z0,z1,z2⟩:=D.aK;obtain⟨y0,Z,Y⟩:=(D.bf (.int .i64 1) (.int .i64 j) (.slice none 0 0)).aK;have HF:=(show Hid _ from rY (p:=p) (m:=3+2*st) (b:=9) (t:=PT.n0 1 j) (show cZ _ _ _ (.slice none 0 0) from⟨none,0,rfl⟩) (show (0<=j/\j<=99) by omega) ⟨show (j:Int)<=9 by omega,EK (d+1) j0 j1⟩ hg hs T (y5.trans x3) (by omega) (by omega));go_wp2_with fail;refine fD (v:=pl 1 j (.slice none 0 0)) (by simp[results,gZ,go_sem,y0,Z,Y];try first|rfl|exact⟨rfl,rfl⟩) rfl ?_
  exact HF.out
 ·have a2:(k==0)=false:=by simpa using hk
  go_wp2_with fail;refine (pA v0 (by omega) (by omega) _ (by omega) (by omega)).mono ?_;rintro e w2 ⟨m,rfl,m0,m1,T,x3⟩;have V:=v4.aN x3 (by omega);have H:=y5.trans x3;have b0:=x3.size;clear y5 x3 v4 v0 a2 hk;have hc:m=0\/m=1\/m=2\/m=3\/(4<=m):=by omega
  rcases hc with rfl|rfl|rfl|rfl|hc
  ·go_wp2_with fail;refine (pA T (by omega) (by omega) _ (by omega) (by omega)).mono ?_;rintro e w3 ⟨j,rfl,j0,j1,u8,R⟩;have x4:=V.aN R (by omega);have G:=H.trans R;have z9:=R.size;clear H R V T;go_wp2_with fail;refine lI (HR.out w3 _ u8 (by omega) (by omega)) ?_;rintro e I ⟨s,ax,ix,cx,rfl,J,M,O,⟨px,lx,ux,S⟩,a⟩;have U:=x4.aN a (by omega);have F:=G.trans a;have y7:=a.size;have kx:=Np (K:=2) (N:=(1+j)) (O.less (B':=w.heap.size+1) (by omega)) (by omega);have D:=(U.alloc (.cells #[.int .i64 s.k,.int .i64 s.n,.slice ax ix cx] 25));obtain⟨f0,f1,f2⟩:=D.cP;obtain⟨z0,z1,z2⟩:=D.aK;obtain⟨y0,Z,Y⟩:=(D.bf (.int .i64 2) (.int .i64 (1+j)) (.slice (some ⟨I.heap.size,0,none⟩) 1 1)).aK;have HF:=(show Hid _ from rY (p:=p) (m:=3+2*st) (b:=9) (t:=PT.n1 2 (1+j) s) kx (show (0<=1+j/\1+j<=99)/\s.sm from⟨by omega,J⟩) ⟨show ((1+j):Int)<=9 by omega,BW y3 M.2 (by simp[dT,cH,fA,eN,eP,PT.k,PT.len,PT.n];omega)⟩ hg hs (S.aX (aG (kX _ _) _)) (F.alloc _) (by omega) (by omega));go_wp2_with fail;refine fD (v:=pl 2 (1+j) (.slice (some ⟨I.heap.size,0,none⟩) 1 1)) (by simp[results,gZ,go_sem,y0,Z,Y];try first|rfl|exact⟨rfl,rfl⟩) rfl ?_
   exact HF.out
  ·go_wp2_with fail;refine lI (HR.out w2 _ T (by omega) (by omega)) ?_;rintro e w3 ⟨s,ax,ix,cx,rfl,J,M,O,⟨px,lx,ux,S⟩,a⟩;have x4:=V.aN a (by omega);have G:=H.trans a;have z9:=a.size;go_wp2_with fail;refine lI (HR.out w3 _ S (by omega) (by omega)) ?_;rintro e I ⟨ty,ay,iy,cy,rfl,z6,z7,z8,⟨py,ly,uy,u0⟩,Q⟩;have U:=x4.aN Q (by omega);have F:=G.trans Q;have y7:=Q.size;have kx:=OL (K:=3) (N:=0) ((O.aN Q (by omega)).less (B':=w.heap.size+1) (by omega)) (z8.less (B':=w.heap.size+1) (by omega)) (by omega);have D:=(U.alloc (.cells #[.int .i64 s.k,.int .i64 s.n,.slice ax ix cx,.int .i64 ty.k,.int .i64 ty.n,.slice ay iy cy] 25));obtain⟨f0,f1,f2⟩:=D.cP;obtain⟨z0,z1,z2⟩:=D.aK;obtain⟨y0,Z,Y⟩:=(D.bf (.int .i64 3) (.int .i64 0) (.slice (some ⟨I.heap.size,0,none⟩) 2 2)).aK;have HF:=(show Hid _ from rY (p:=p) (m:=3+2*st) (b:=9) (t:=PT.n2 3 0 s ty) kx (show ((0:Int)<=0/\(0:Int)<=99)/\s.sm/\ty.sm from⟨by omega,J,z6⟩) ⟨show (0:Int)<=9 by omega,Fz y3 M.2 z7.2 (by simp[dT,cH,fA,eN,eP,PT.k,PT.len,PT.n])⟩ hg hs (u0.aX (aG (kX _ _) _)) (F.alloc _) (by omega) (by omega));go_wp2_with fail;refine fD (v:=pl 3 0 (.slice (some ⟨I.heap.size,0,none⟩) 2 2)) (by simp[results,gZ,go_sem,y0,Z,Y];try first|rfl|exact⟨rfl,rfl⟩) rfl ?_
   exact HF.out
  ·go_wp2_with fail;refine lI (HR.out w2 _ T (by omega) (by omega)) ?_;rintro e I ⟨s,ax,ix,cx,rfl,J,M,O,⟨px,lx,ux,S⟩,a⟩;have U:=V.aN a (by omega);have F:=H.trans a;have y7:=a.size;have kx:=Np (K:=4) (N:=0) (O.less (B':=w.heap.size+1) (by omega)) (by omega);have D:=(U.alloc (.cells #[.int .i64 s.k,.int .i64 s.n,.slice ax ix cx] 25));obtain⟨f0,f1,f2⟩:=D.cP;obtain⟨z0,z1,z2⟩:=D.aK;obtain⟨y0,Z,Y⟩:=(D.bf (.int .i64 4) (.int .i64 0) (.slice (some ⟨I.heap.size,0,none⟩) 1 1)).aK;have HF:=(show Hid _ from rY (p:=p) (m:=3+2*st) (b:=9) (t:=PT.n1 4 0 s) kx (show ((0:Int)<=0/\(0:Int)<=99)/\s.sm from⟨by omega,J⟩) ⟨show (0:Int)<=9 by omega,BW y3 M.2 (by simp[dT,cH,fA,eN,eP,PT.k,PT.len,PT.n])⟩ hg hs (S.aX (aG (kX _ _) _)) (F.alloc _) (by omega) (by omega));go_wp2_with fail;refine fD (v:=pl 4 0 (.slice (some ⟨I.heap.size,0,none⟩) 1 1)) (by simp[results,gZ,go_sem,y0,Z,Y];try first|rfl|exact⟨rfl,rfl⟩) rfl ?_
   exact HF.out
  ·go_wp2_with fail;refine lI (HR.out w2 _ T (by omega) (by omega)) ?_;rintro e w3 ⟨s,ax,ix,cx,rfl,J,M,O,⟨px,lx,ux,S⟩,a⟩;have x4:=V.aN a (by omega);have G:=H.trans a;have z9:=a.size;go_wp2_with fail;refine lI (HR.out w3 _ S (by omega) (by omega)) ?_;rintro e I ⟨ty,ay,iy,cy,rfl,z6,z7,z8,⟨py,ly,uy,u0⟩,Q⟩;have U:=x4.aN Q (by omega);have F:=G.trans Q;have y7:=Q.size;have kx:=OL (K:=5) (N:=0) ((O.aN Q (by omega)).less (B':=w.heap.size+1) (by omega)) (z8.less (B':=w.heap.size+1) (by omega)) (by omega);have D:=(U.alloc (.cells #[.int .i64 s.k,.int .i64 s.n,.slice ax ix cx,.int .i64 ty.k,.int .i64 ty.n,.slice ay iy cy] 25));obtain⟨f0,f1,f2⟩:=D.cP;obtain⟨z0,z1,z2⟩:=D.aK;obtain⟨y0,Z,Y⟩:=(D.bf (.int .i64 5) (.int .i64 0) (.slice (some ⟨I.heap.size,0,none⟩) 2 2)).aK;have HF:=(show Hid _ from rY (p:=p) (m:=3+2*st) (b:=9) (t:=PT.n2 5 0 s ty) kx (show ((0:Int)<=0/\(0:Int)<=99)/\s.sm/\ty.sm from⟨by omega,J,z6⟩) ⟨show (0:Int)<=9 by omega,Fz y3 M.2 z7.2 (by simp[dT,cH,fA,eN,eP,PT.k,PT.len,PT.n])⟩ hg hs (u0.aX (aG (kX _ _) _)) (F.alloc _) (by omega) (by omega));go_wp2_with fail;refine fD (v:=pl 5 0 (.slice (some ⟨I.heap.size,0,none⟩) 2 2)) (by simp[results,gZ,go_sem,y0,Z,Y];try first|rfl|exact⟨rfl,rfl⟩) rfl ?_
   exact HF.out
  ·have m0:(m==0)=false:=by simp;omega
   have m1:(m==1)=false:=by simp;omega
   have m2:(m==2)=false:=by simp;omega
   have m3:(m==3)=false:=by simp;omega
   go_wp2_with fail;refine (pA T (by omega) (by omega) _ (by omega) (by omega)).mono ?_;rintro e w3 ⟨j,rfl,j0,j1,u8,R⟩;have x4:=V.aN R (by omega);have G:=H.trans R;have z9:=R.size;clear H R V T;go_wp2_with fail;refine lI (HR.out w3 _ u8 (by omega) (by omega)) ?_;rintro e I ⟨s,ax,ix,cx,rfl,J,M,O,⟨px,lx,ux,S⟩,a⟩;have U:=x4.aN a (by omega);have F:=G.trans a;have y7:=a.size;have kx:=Np (K:=6) (N:=(1+j)) (O.less (B':=w.heap.size+1) (by omega)) (by omega);have D:=(U.alloc (.cells #[.int .i64 s.k,.int .i64 s.n,.slice ax ix cx] 25));obtain⟨f0,f1,f2⟩:=D.cP;obtain⟨z0,z1,z2⟩:=D.aK;obtain⟨y0,Z,Y⟩:=(D.bf (.int .i64 6) (.int .i64 (1+j)) (.slice (some ⟨I.heap.size,0,none⟩) 1 1)).aK;have HF:=(show Hid _ from rY (p:=p) (m:=3+2*st) (b:=9) (t:=PT.n1 6 (1+j) s) kx (show (0<=1+j/\1+j<=99)/\s.sm from⟨by omega,J⟩) ⟨show ((1+j):Int)<=9 by omega,BW y3 M.2 (by simp[dT,cH,fA,eN,eP,PT.k,PT.len,PT.n];omega)⟩ hg hs (S.aX (aG (kX _ _) _)) (F.alloc _) (by omega) (by omega));go_wp2_with fail;refine fD (v:=pl 6 (1+j) (.slice (some ⟨I.heap.size,0,none⟩) 1 1)) (by simp[results,gZ,go_sem,y0,Z,Y];try first|rfl|exact⟨rfl,rfl⟩) rfl ?_
   exact HF.out
theorem Ev (d:Nat):∀{w:fV}{p:Int},d<=4->Rd B w g v n p->0<=p->p+sL d<=900000->fH iC 124 #[.pointer (some ⟨g,0,none⟩),.int .i64 d] w (xQ B w g v n p (sL d) 9 d):=by
 induction d with
 | zero=>intro w p hd h hp a;exact wU _ (by omega) (yF _) h hp (by have:=yF 0;omega)
 | succ d ih=>
  intro w p hd h hp a;have h1:=yF d;simp only[sL]at a ⊢
  by_cases D:d=0
  ·subst D;exact wU _ (by omega) (by omega) h hp (by omega)
  ·exact Du (by omega) (by omega) h hp (by omega) fun W q hr hq s=>ih (by omega) hr hq s
open Go.RowKit
theorem eG.ec {off:Nat}{x:List Rw}(c0:w.cell? ⟨g,off,none⟩=some v)(R:Rs w v x)(h1:1<=cap)(h2:cap<=maxLen):eG w (.slice (some ⟨g,off,none⟩) 1 cap) [x]:=by
 refine⟨[v],⟨some ⟨g,off,none⟩,cap,rfl,h1,h2,by simp,fun i u hi=>?_⟩,rfl,fun i u l h1 h2=>?_⟩
 ·have:i=0:=by have:=(List.getElem?_eq_some_iff.1 hi).1;simp at this;exact this
  subst this;cases hi;exact⟨g,off,rfl,lC c0,fun j a=>by obtain rfl:j=0:=(by simpa using a);simpa using c0⟩
 ·have:i=0:=by have:=(List.getElem?_eq_some_iff.1 h1).1;simp at this;exact this
  subst this;cases h1;cases h2;exact R
theorem eG.eJ {off:Nat}{v':gY}{x y:List Rw}(c0:w.cell? ⟨g,off,none⟩=some v)(c1:w.cell? ⟨g,off+1,none⟩=some v')(R:Rs w v x)(s:Rs w v' y)(h1:2<=cap)(h2:cap<=maxLen):eG w (.slice (some ⟨g,off,none⟩) 2 cap) [x,y]:=by
 have two:∀{α:Type}{i:Nat}{p q r:α},[p,q][i]?=some r->(i=0/\p=r)\/(i=1/\q=r):=by
  intro α i p q r h
  match i,h with
  | 0,h=>exact .inl ⟨rfl,by simpa using h⟩
  | 1,h=>exact .inr ⟨rfl,by simpa using h⟩
  | i+2,h=>simp at h
 refine⟨[v,v'],⟨some ⟨g,off,none⟩,cap,rfl,h1,h2,by simp,fun i u hi=>?_⟩,rfl,fun i u l h1 h2=>?_⟩
 ·rcases two hi with⟨rfl,rfl⟩|⟨rfl,rfl⟩
  ·exact⟨g,off,rfl,lC c0,fun j a=>by obtain rfl:j=0:=(by simpa using a);simpa using c0⟩
  ·exact⟨g,off,rfl,lC c0,fun j a=>by obtain rfl:j=0:=(by simpa using a);simpa using c1⟩
 ·rcases two h1 with⟨rfl,rfl⟩|⟨rfl,rfl⟩
  ·rcases two h2 with⟨_,rfl⟩|⟨h,_⟩
   ·exact R
   ·cases h
  ·rcases two h2 with⟨h,_⟩|⟨_,rfl⟩
   ·cases h
   ·exact s
section
open Go.RowKit Go.Shelf
attribute [local go_sem ↓] Go.wp_at_zero Go.wp_at_succ
variable {t:PT}{A N:Nat}{a0:Option Addr}{c0:Nat}{L:Array Bool}{W W':fV}{t3 t8 t9 t10 t11 t12 t13:gY}
def qC (t:PT):SS:=⟨t,[[],[]],[(0,0)],[]⟩
theorem MB {t:PT}{s a:Nat}{D v':gY}(M:cZ 0 w t D)(h0:w.cell? ⟨q,0,none⟩=some v)(h1:w.cell? ⟨q,1,none⟩=some v')(J:Rs w v [])(F:Rs w v' [])(O:2<=cap)(hm:cap<=maxLen)(H:1<=a)(G:a<=maxLen)(I:Bk w s #[.int .i64 0,.int .i64 0] 32):bY w D (.slice (some ⟨q,0,none⟩) 2 cap) (.slice (some ⟨s,0,none⟩) 1 a) bM (qC t):=by
 refine⟨M,eG.eJ h0 (by simpa using h1) J F O hm,⟨_,a,rfl,H,G,by simp[qC],fun i hi=>?_⟩,aD.rs (oN fX 5 55 _ 0) (by simp[qC])⟩;obtain rfl:i=0:=by simp[qC]at hi;exact hi
 obtain⟨e0,Q,-,-⟩:=I.two;exact⟨s,0,rfl,I.lt,by simpa[qC,tA]using e0,by simpa[qC,tB]using Q⟩
end
end Go.Proofs.YtbdpcngcbnoioaaGreatDoor
