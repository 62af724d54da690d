import Derived.Test.YtbdpcngcbnoioaaGreatDoorGpa
import Derived.Test.YtbdpcngcbnoioaaGreatDoorGlk
set_option maxRecDepth 100000
set_option maxHeartbeats 40000000
namespace Go.Proofs.YtbdpcngcbnoioaaGreatDoor
open Go.RowKit
open Go.Proofs.Tryz renaming results124->fM,prog->fQ,ntmps124->gD,func124->gM
open Go renaming bodyPost_ret->gQ,Calls->gX,World->iM,Value->iP
open Go.RowKit.Below renaming refl->jB
open Go.Calls renaming mono->jO
variable {B d g n:Nat}{W w:iM}{k p:Int}{t:TypeId}{v x0 x1 x2:iP}
theorem Pz {x:PT}{s:iP}{K N:Int}(hx:dN B W x s)(a:B<=W.heap.size):dN B (W.alloc (.cells #[.int .i64 x.k,.int .i64 x.n,s] 25)) (.n1 K N x) (.slice (some ⟨W.heap.size,0,none⟩) 1 1):=by
 obtain⟨h0,h1,h2⟩:=(rF W x.k x.n s).aR;exact⟨W.heap.size,0,1,s,rfl,a,h0,h1,h2,hx.keep (aH (jB _ _) _)⟩
theorem Bk.el {k:Nat}{A s a:iP}(h:Bk w k #[x0,x1,x2,A,s,a] t):w.cell? ⟨k,0,none⟩=some x0/\w.cell? ⟨k,1,none⟩=some x1/\w.cell? ⟨k,2,none⟩=some x2/\w.cell? ⟨k,3,none⟩=some A/\w.cell? ⟨k,4,none⟩=some s/\w.cell? ⟨k,5,none⟩=some a:=by
 unfold Bk at h;simp[iM.cell?,h]
theorem RQ {x y:PT}{s u:iP}{K N:Int}(hx:dN B W x s)(a:dN B W y u)(D:B<=W.heap.size):dN B (W.alloc (.cells #[.int .i64 x.k,.int .i64 x.n,s,.int .i64 y.k,.int .i64 y.n,u] 25)) (.n2 K N x y) (.slice (some ⟨W.heap.size,0,none⟩) 2 2):=by
 have A:Bk (W.alloc (.cells #[.int .i64 x.k,.int .i64 x.n,s,.int .i64 y.k,.int .i64 y.n,u] 25)) W.heap.size #[.int .i64 x.k,.int .i64 x.n,s,.int .i64 y.k,.int .i64 y.n,u] 25:=Bk.new _ _ rfl;obtain⟨h0,h1,h2,h3,h4,h5⟩:=A.el;exact⟨W.heap.size,0,2,s,u,rfl,D,h0,h1,h2,h3,h4,h5,hx.keep (aH (jB _ _) _),a.keep (aH (jB _ _) _)⟩
abbrev NQ (W:iM)(q:Nat)(a b c:iP):iM:=((W.setCell ⟨q,0,none⟩ a).setCell ⟨q,1,none⟩ b).setCell ⟨q,2,none⟩ c
theorem Bk.bf {q:Nat}(h:Bk W q #[x0,x1,x2] t)(a b c:iP):Bk (NQ W q a b c) q #[a,b,c] t:=((h.set 0 a).set 1 b).set 2 c
theorem Bk.cr {q:Nat}(h:Bk W q #[x0,x1,x2] t):W.frozen? ⟨q,0,none⟩=false/\W.frozen? ⟨q,1,none⟩=false/\W.frozen? ⟨q,2,none⟩=false:=by
 unfold Bk at h;simp[iM.frozen?,h]
def Co (dd:Nat)(t:PT):Prop:=dd=0\/cP t dd=true
def xW (B:Nat)(w:iM)(g:Nat)(v:iP)(n:Nat)(p m b:Int)(dd:Nat)(e:Ending)(w':iM):Prop:=
 ∃(t:PT)(a:Option Addr)(i c:Nat),e=.returned (pl t.k t.n (.slice a i c))/\t.sm/\(t.n<=b/\Co dd t)/\dN w.heap.size w' t (.slice a i c)/\(∃p':Int,p<=p'/\p'<=p+m/\Rd B w' g v n p')/\Bx g w w'
theorem tF {q m b:Int}{A:Nat}{t:PT}{a:Option Addr}{i c:Nat}(D:dN (w.heap.size+1) W t (.slice a i c))(s:t.sm)(hn:t.n<=b/\Co A t)(hg:g<w.heap.size)(H:B<=w.heap.size)(hr:Rd B W g v n q)(hx:Bx g w W)(h1:p<=q)(h2:q<=p+m):
  xW B w g v n p m b A (.returned (pl t.k t.n (.slice a i c))) (NQ W w.heap.size (.int .i64 t.k) (.int .i64 t.n) (.slice a i c)):=by
 have G:Bx w.heap.size W (NQ W w.heap.size (.int .i64 t.k) (.int .i64 t.n) (.slice a i c)):=(((Bx.refl w.heap.size W).bj (p:=⟨w.heap.size,0,none⟩) rfl _).bj (p:=⟨w.heap.size,1,none⟩) rfl _).bj (p:=⟨w.heap.size,2,none⟩) rfl _;refine⟨t,a,i,c,rfl,s,hn,(D.aN G (by omega)).less (by omega),⟨q,h1,h2,?_⟩,?_⟩
 ·exact ((hr.apart (by simp;omega) (by simp;omega) _).apart (by simp;omega) (by simp;omega) _).apart (by simp;omega) (by simp;omega) _
 ·exact ((hx.aA (by simp) _).aA (by simp) _).aA (by simp) _
theorem Fa (a:Nat)(h0:0<=k)(h1:k<2):Co a (.n0 1 k):=by
 cases a with
 | zero=>exact .inl rfl
 | succ d=>right;simp[cP,dZ,cG,fO,eH,eP,PT.k,PT.len,PT.n];omega
theorem CM {n:Int}{x:PT}(hd:d≠0)(hx:Co d x)(h:dZ (.n1 k n x)=true):Co (d+1) (.n1 k n x):=by
 right;simp only[cP,h,Bool.true_and];exact hx.resolve_left hd
theorem Hz {n:Int}{x y:PT}(hd:d≠0)(hx:Co d x)(a:Co d y)(h:dZ (.n2 k n x y)=true):Co (d+1) (.n2 k n x y):=by
 right;simp only[cP,h,Bool.true_and,hx.resolve_left hd,a.resolve_left hd]
def uO:Nat->Int
 | 0=>1
 | d+1=>3+2*uO d
theorem zP (d:Nat):1<=uO d:=by
 induction d with
 | zero=>simp[uO]
 | succ d ih=>simp only[uO];omega
theorem yL {m:Int}{a:Int}(G:Nat)(hd:a<2)(hm:1<=m)(h:Rd B w g v n p)(hp:0<=p)(S:p<=900000):
  gX fQ 124 #[.pointer (some ⟨g,0,none⟩),.int .i64 a] w (xW B w g v n p m 9 G):=by
 have hg:=h.blk.lt;have hs:=h.size;have V:=h.here;have h0:=h.aa (aH (jB _ _) (.cells #[.int .i64 0,.int .i64 0,.slice none 0 0] 25));have Q:Bk (w.alloc (.cells #[.int .i64 0,.int .i64 0,.slice none 0 0] 25)) w.heap.size #[.int .i64 0,.int .i64 0,.slice none 0 0] 25:=Bk.new _ _ rfl;have x0:Bx g w (w.alloc (.cells #[.int .i64 0,.int .i64 0,.slice none 0 0] 25)):=(Bx.refl _ _).alloc _;have R:(w.alloc (.cells #[.int .i64 0,.int .i64 0,.slice none 0 0] 25)).heap.size=w.heap.size+1:=by simp
 go_enter gM,gD;go_wp2_with fail;refine (pA h0 (by omega) (by omega) _ (by omega) (by omega)).mono ?_;rintro e w1 ⟨k,rfl,O,M,D,s⟩;have H:=Q.aN s (by omega);have A:=(H);obtain⟨f0,Z,Y⟩:=A.cr;obtain⟨U,T,z2⟩:=A.aR;obtain⟨L,J,I⟩:=(A.bf (.int .i64 1) (.int .i64 k) (.slice none 0 0)).aR;have HF:=(show Hid _ from tF (p:=p) (m:=m) (b:=9) (t:=PT.n0 1 k) (show dN _ _ _ (.slice none 0 0) from⟨none,0,rfl⟩) (show (0<=k/\k<=99) by omega) ⟨show (k:Int)<=9 by omega,Fa G O M⟩ hg hs D (x0.trans s) (by omega) (by omega));go_wp2_with fail;refine gQ (v:=pl 1 k (.slice none 0 0)) (by simp[results,fM,go_sem,L,J,I];try first|rfl|exact⟨rfl,rfl⟩) rfl ?_
 exact HF.out
theorem F6 (hd:1<=d)(b4:d<=4)(h:Rd B w g v n p)(hp:0<=p)(b3:p+3+2*uO d<=900000)
  (v1:∀(W:iM)(q:Int),Rd B W g v n q->0<=q->q+uO d<=900000->gX fQ 124 #[.pointer (some ⟨g,0,none⟩),.int .i64 d] W (xW B W g v n q (uO d) 9 d)):
  gX fQ 124 #[.pointer (some ⟨g,0,none⟩),.int .i64 ((d:Int)+1)] w (xW B w g v n p (3+2*uO d) 9 (d+1)):=by
 have hg:=h.blk.lt;have hs:=h.size;have hh:=h.here;have h0:=h.aa (aH (jB _ _) (.cells #[.int .i64 0,.int .i64 0,.slice none 0 0] 25));have br:Bk (w.alloc (.cells #[.int .i64 0,.int .i64 0,.slice none 0 0] 25)) w.heap.size #[.int .i64 0,.int .i64 0,.slice none 0 0] 25:=Bk.new _ _ rfl;have x0:Bx g w (w.alloc (.cells #[.int .i64 0,.int .i64 0,.slice none 0 0] 25)):=(Bx.refl _ _).alloc _;have w7:(w.alloc (.cells #[.int .i64 0,.int .i64 0,.slice none 0 0] 25)).heap.size=w.heap.size+1:=by simp
 have b2:=zP d;have x9:d≠0:=by omega
 have h2:¬((d:Int)+1<2):=by omega
 have b5:(d:Int)+1-1=(d:Int):=by omega
 have HR:=(show Hid _ from v1);clear v1;generalize uO d=st at*;go_enter gM,gD;go_wp2_with fail;refine (pA h0 (by omega) (by omega) _ (by omega) (by omega)).mono ?_;rintro e w1 ⟨k,rfl,k0,k1,v3,y7⟩;have v7:=br.aN y7 (by omega);have y4:=x0.trans y7;have a3:=y7.size;rw[w7]at a3;clear x0 y7 br h0 w7
 by_cases hk:k=0
 ·subst hk;go_wp2_with fail;refine (pA v3 (by omega) (by omega) _ (by omega) (by omega)).mono ?_;rintro e w2 ⟨j,rfl,j0,j1,S,h9⟩;have U:=v7.aN h9 (by omega);have A:=(U);obtain⟨f0,f1,f2⟩:=A.cr;obtain⟨z0,z1,z2⟩:=A.aR;obtain⟨Z,Y,V⟩:=(A.bf (.int .i64 1) (.int .i64 j) (.slice none 0 0)).aR;have HF:=(show Hid _ from tF (p:=p) (m:=3+2*st) (b:=9) (t:=PT.n0 1 j) (show dN _ _ _ (.slice none 0 0) from⟨none,0,rfl⟩) (show (0<=j/\j<=99) by omega) ⟨show (j:Int)<=9 by omega,Fa (d+1) j0 j1⟩ hg hs S (y4.trans h9) (by omega) (by omega));go_wp2_with fail;refine gQ (v:=pl 1 j (.slice none 0 0)) (by simp[results,fM,go_sem,Z,Y,V];try first|rfl|exact⟨rfl,rfl⟩) rfl ?_
  exact HF.out
 ·have a4:(k==0)=false:=by simpa using hk
  go_wp2_with fail;refine (pA v3 (by omega) (by omega) _ (by omega) (by omega)).mono ?_;rintro e w2 ⟨m,rfl,m0,m1,S,h9⟩;have U:=v7.aN h9 (by omega);have H:=y4.trans h9;have b1:=h9.size;clear y4 h9 v7 v3 a4 hk;have hc:m=0\/m=1\/m=2\/m=3\/(4<=m):=by omega
  rcases hc with rfl|rfl|rfl|rfl|hc
  ·go_wp2_with fail;refine (pA S (by omega) (by omega) _ (by omega) (by omega)).mono ?_;rintro e w3 ⟨j,rfl,j0,j1,v2,Q⟩;have x3:=U.aN Q (by omega);have G:=H.trans Q;have z9:=Q.size;clear H Q U S;go_wp2_with fail;refine jO (HR.out w3 _ v2 (by omega) (by omega)) ?_;rintro e I ⟨s,ax,ix,cx,rfl,J,L,M,⟨px,lx,ux,R⟩,a⟩;have T:=x3.aN a (by omega);have D:=G.trans a;have y6:=a.size;have kx:=Pz (K:=2) (N:=(1+j)) (M.less (B':=w.heap.size+1) (by omega)) (by omega);have A:=(T.alloc (.cells #[.int .i64 s.k,.int .i64 s.n,.slice ax ix cx] 25));obtain⟨f0,f1,f2⟩:=A.cr;obtain⟨z0,z1,z2⟩:=A.aR;obtain⟨Z,Y,V⟩:=(A.bf (.int .i64 2) (.int .i64 (1+j)) (.slice (some ⟨I.heap.size,0,none⟩) 1 1)).aR;have HF:=(show Hid _ from tF (p:=p) (m:=3+2*st) (b:=9) (t:=PT.n1 2 (1+j) s) kx (show (0<=1+j/\1+j<=99)/\s.sm from⟨by omega,J⟩) ⟨show ((1+j):Int)<=9 by omega,CM x9 L.2 (by simp[dZ,cG,fO,eH,eP,PT.k,PT.len,PT.n];omega)⟩ hg hs (R.aa (aH (jB _ _) _)) (D.alloc _) (by omega) (by omega));go_wp2_with fail;refine gQ (v:=pl 2 (1+j) (.slice (some ⟨I.heap.size,0,none⟩) 1 1)) (by simp[results,fM,go_sem,Z,Y,V];try first|rfl|exact⟨rfl,rfl⟩) rfl ?_
   exact HF.out
  ·go_wp2_with fail;refine jO (HR.out w2 _ S (by omega) (by omega)) ?_;rintro e w3 ⟨s,ax,ix,cx,rfl,J,L,M,⟨px,lx,ux,R⟩,a⟩;have x3:=U.aN a (by omega);have G:=H.trans a;have z9:=a.size;go_wp2_with fail;refine jO (HR.out w3 _ R (by omega) (by omega)) ?_;rintro e I ⟨ty,ay,iy,cy,rfl,z5,z7,z8,⟨py,ly,uy,v0⟩,O⟩;have T:=x3.aN O (by omega);have D:=G.trans O;have y6:=O.size;have kx:=RQ (K:=3) (N:=0) ((M.aN O (by omega)).less (B':=w.heap.size+1) (by omega)) (z8.less (B':=w.heap.size+1) (by omega)) (by omega);have A:=(T.alloc (.cells #[.int .i64 s.k,.int .i64 s.n,.slice ax ix cx,.int .i64 ty.k,.int .i64 ty.n,.slice ay iy cy] 25));obtain⟨f0,f1,f2⟩:=A.cr;obtain⟨z0,z1,z2⟩:=A.aR;obtain⟨Z,Y,V⟩:=(A.bf (.int .i64 3) (.int .i64 0) (.slice (some ⟨I.heap.size,0,none⟩) 2 2)).aR;have HF:=(show Hid _ from tF (p:=p) (m:=3+2*st) (b:=9) (t:=PT.n2 3 0 s ty) kx (show ((0:Int)<=0/\(0:Int)<=99)/\s.sm/\ty.sm from⟨by omega,J,z5⟩) ⟨show (0:Int)<=9 by omega,Hz x9 L.2 z7.2 (by simp[dZ,cG,fO,eH,eP,PT.k,PT.len,PT.n])⟩ hg hs (v0.aa (aH (jB _ _) _)) (D.alloc _) (by omega) (by omega));go_wp2_with fail;refine gQ (v:=pl 3 0 (.slice (some ⟨I.heap.size,0,none⟩) 2 2)) (by simp[results,fM,go_sem,Z,Y,V];try first|rfl|exact⟨rfl,rfl⟩) rfl ?_
   exact HF.out
  ·go_wp2_with fail;refine jO (HR.out w2 _ S (by omega) (by omega)) ?_;rintro e I ⟨s,ax,ix,cx,rfl,J,L,M,⟨px,lx,ux,R⟩,a⟩;have T:=U.aN a (by omega);have D:=H.trans a;have y6:=a.size;have kx:=Pz (K:=4) (N:=0) (M.less (B':=w.heap.size+1) (by omega)) (by omega);have A:=(T.alloc (.cells #[.int .i64 s.k,.int .i64 s.n,.slice ax ix cx] 25));obtain⟨f0,f1,f2⟩:=A.cr;obtain⟨z0,z1,z2⟩:=A.aR;obtain⟨Z,Y,V⟩:=(A.bf (.int .i64 4) (.int .i64 0) (.slice (some ⟨I.heap.size,0,none⟩) 1 1)).aR;have HF:=(show Hid _ from tF (p:=p) (m:=3+2*st) (b:=9) (t:=PT.n1 4 0 s) kx (show ((0:Int)<=0/\(0:Int)<=99)/\s.sm from⟨by omega,J⟩) ⟨show (0:Int)<=9 by omega,CM x9 L.2 (by simp[dZ,cG,fO,eH,eP,PT.k,PT.len,PT.n])⟩ hg hs (R.aa (aH (jB _ _) _)) (D.alloc _) (by omega) (by omega));go_wp2_with fail;refine gQ (v:=pl 4 0 (.slice (some ⟨I.heap.size,0,none⟩) 1 1)) (by simp[results,fM,go_sem,Z,Y,V];try first|rfl|exact⟨rfl,rfl⟩) rfl ?_
   exact HF.out
  ·go_wp2_with fail;refine jO (HR.out w2 _ S (by omega) (by omega)) ?_;rintro e w3 ⟨s,ax,ix,cx,rfl,J,L,M,⟨px,lx,ux,R⟩,a⟩;have x3:=U.aN a (by omega);have G:=H.trans a;have z9:=a.size;go_wp2_with fail;refine jO (HR.out w3 _ R (by omega) (by omega)) ?_;rintro e I ⟨ty,ay,iy,cy,rfl,z5,z7,z8,⟨py,ly,uy,v0⟩,O⟩;have T:=x3.aN O (by omega);have D:=G.trans O;have y6:=O.size;have kx:=RQ (K:=5) (N:=0) ((M.aN O (by omega)).less (B':=w.heap.size+1) (by omega)) (z8.less (B':=w.heap.size+1) (by omega)) (by omega);have A:=(T.alloc (.cells #[.int .i64 s.k,.int .i64 s.n,.slice ax ix cx,.int .i64 ty.k,.int .i64 ty.n,.slice ay iy cy] 25));obtain⟨f0,f1,f2⟩:=A.cr;obtain⟨z0,z1,z2⟩:=A.aR;obtain⟨Z,Y,V⟩:=(A.bf (.int .i64 5) (.int .i64 0) (.slice (some ⟨I.heap.size,0,none⟩) 2 2)).aR;have HF:=(show Hid _ from tF (p:=p) (m:=3+2*st) (b:=9) (t:=PT.n2 5 0 s ty) kx (show ((0:Int)<=0/\(0:Int)<=99)/\s.sm/\ty.sm from⟨by omega,J,z5⟩) ⟨show (0:Int)<=9 by omega,Hz x9 L.2 z7.2 (by simp[dZ,cG,fO,eH,eP,PT.k,PT.len,PT.n])⟩ hg hs (v0.aa (aH (jB _ _) _)) (D.alloc _) (by omega) (by omega));go_wp2_with fail;refine gQ (v:=pl 5 0 (.slice (some ⟨I.heap.size,0,none⟩) 2 2)) (by simp[results,fM,go_sem,Z,Y,V];try first|rfl|exact⟨rfl,rfl⟩) rfl ?_
   exact HF.out
  ·have m0:(m==0)=false:=by simp;omega
   have m1:(m==1)=false:=by simp;omega
   have m2:(m==2)=false:=by simp;omega
   have m3:(m==3)=false:=by simp;omega
   go_wp2_with fail;refine (pA S (by omega) (by omega) _ (by omega) (by omega)).mono ?_;rintro e w3 ⟨j,rfl,j0,j1,v2,Q⟩;have x3:=U.aN Q (by omega);have G:=H.trans Q;have z9:=Q.size;clear H Q U S;go_wp2_with fail;refine jO (HR.out w3 _ v2 (by omega) (by omega)) ?_;rintro e I ⟨s,ax,ix,cx,rfl,J,L,M,⟨px,lx,ux,R⟩,a⟩;have T:=x3.aN a (by omega);have D:=G.trans a;have y6:=a.size;have kx:=Pz (K:=6) (N:=(1+j)) (M.less (B':=w.heap.size+1) (by omega)) (by omega);have A:=(T.alloc (.cells #[.int .i64 s.k,.int .i64 s.n,.slice ax ix cx] 25));obtain⟨f0,f1,f2⟩:=A.cr;obtain⟨z0,z1,z2⟩:=A.aR;obtain⟨Z,Y,V⟩:=(A.bf (.int .i64 6) (.int .i64 (1+j)) (.slice (some ⟨I.heap.size,0,none⟩) 1 1)).aR;have HF:=(show Hid _ from tF (p:=p) (m:=3+2*st) (b:=9) (t:=PT.n1 6 (1+j) s) kx (show (0<=1+j/\1+j<=99)/\s.sm from⟨by omega,J⟩) ⟨show ((1+j):Int)<=9 by omega,CM x9 L.2 (by simp[dZ,cG,fO,eH,eP,PT.k,PT.len,PT.n];omega)⟩ hg hs (R.aa (aH (jB _ _) _)) (D.alloc _) (by omega) (by omega));go_wp2_with fail;refine gQ (v:=pl 6 (1+j) (.slice (some ⟨I.heap.size,0,none⟩) 1 1)) (by simp[results,fM,go_sem,Z,Y,V];try first|rfl|exact⟨rfl,rfl⟩) rfl ?_
   exact HF.out
theorem Gb (d:Nat):∀{w:iM}{p:Int},d<=4->Rd B w g v n p->0<=p->p+uO d<=900000->gX fQ 124 #[.pointer (some ⟨g,0,none⟩),.int .i64 d] w (xW B w g v n p (uO d) 9 d):=by
 induction d with
 | zero=>intro w p hd h hp a;exact yL _ (by omega) (zP _) h hp (by have:=zP 0;omega)
 | succ d ih=>
  intro w p hd h hp a;have h1:=zP d;simp only[uO]at a ⊢
  by_cases A:d=0
  ·subst A;exact yL _ (by omega) (by omega) h hp (by omega)
  ·exact F6 (by omega) (by omega) h hp (by omega) fun W q hr hq s=>ih (by omega) hr hq s
open Go.RowKit
theorem eS.ew {off a:Nat}{x:List Rw}(s:w.cell? ⟨g,off,none⟩=some v)(R:Rs w v x)(h1:1<=a)(h2:a<=maxLen):eS w (.slice (some ⟨g,off,none⟩) 1 a) [x]:=by
 refine⟨[v],⟨some ⟨g,off,none⟩,a,rfl,h1,h2,by simp,fun i u hi=>?_⟩,rfl,fun i u l h1 h2=>?_⟩
 ·have:i=0:=by have:=(List.getElem?_eq_some_iff.1 hi).1;simp at this;exact this
  subst this;cases hi;exact⟨g,off,rfl,lC s,fun j A=>by obtain rfl:j=0:=(by simpa using A);simpa using s⟩
 ·have:i=0:=by have:=(List.getElem?_eq_some_iff.1 h1).1;simp at this;exact this
  subst this;cases h1;cases h2;exact R
theorem eS.eu {off a:Nat}{v':iP}{x y:List Rw}(A:w.cell? ⟨g,off,none⟩=some v)(c1:w.cell? ⟨g,off+1,none⟩=some v')(R:Rs w v x)(D:Rs w v' y)(h1:2<=a)(h2:a<=maxLen):eS w (.slice (some ⟨g,off,none⟩) 2 a) [x,y]:=by
 have two:∀{α:Type}{i:Nat}{p q r:α},[p,q][i]?=some r->(i=0/\p=r)\/(i=1/\q=r):=by
  intro α i p q r h
  match i,h with
  | 0,h=>exact .inl ⟨rfl,by simpa using h⟩
  | 1,h=>exact .inr ⟨rfl,by simpa using h⟩
  | i+2,h=>simp at h
 refine⟨[v,v'],⟨some ⟨g,off,none⟩,a,rfl,h1,h2,by simp,fun i u hi=>?_⟩,rfl,fun i u l h1 h2=>?_⟩
 ·rcases two hi with⟨rfl,rfl⟩|⟨rfl,rfl⟩
  ·exact⟨g,off,rfl,lC A,fun j s=>by obtain rfl:j=0:=(by simpa using s);simpa using A⟩
  ·exact⟨g,off,rfl,lC A,fun j s=>by obtain rfl:j=0:=(by simpa using s);simpa using c1⟩
 ·rcases two h1 with⟨rfl,rfl⟩|⟨rfl,rfl⟩
  ·rcases two h2 with⟨_,rfl⟩|⟨h,_⟩
   ·exact R
   ·cases h
  ·rcases two h2 with⟨h,_⟩|⟨_,rfl⟩
   ·cases h
   ·exact D
end Go.Proofs.YtbdpcngcbnoioaaGreatDoor
