import Derived.Test.YtbdpcngcbnoioaaGreatDoorGpa
set_option maxRecDepth 100000
set_option maxHeartbeats 40000000
namespace Go.Proofs.YtbdpcngcbnoioaaGreatDoor
open Go.RowKit
theorem kd1 {B:Nat} {W:World} {x:PT} {s:Value} {K N:Int} (hx:KdS B W x s) (hB:B<=W.heap.size):KdS B (W.alloc (.cells #[.int .i64 x.k, .int .i64 x.n,s] 25)) (.n1 K N x) (.slice (some ⟨W.heap.size,0,none⟩) 1 1):=by
 obtain ⟨h0,h1,h2⟩:=(pl_box W x.k x.n s).three';exact ⟨W.heap.size,0,1,s,rfl,hB,h0,h1,h2,hx.keep (bAz (Below.refl _ _) _)⟩
theorem Bk.six' {w:World} {k:Nat} {x0 x1 x2 x3 x4 x5:Value} {t:TypeId} (h:Bk w k #[x0,x1,x2,x3,x4,x5] t):w.cell? ⟨k,0,none⟩=some x0/\w.cell? ⟨k,1,none⟩=some x1/\w.cell? ⟨k,2,none⟩=some x2/\w.cell? ⟨k,3,none⟩=some x3/\w.cell? ⟨k,4,none⟩=some x4/\w.cell? ⟨k,5,none⟩=some x5:=by
 unfold Bk at h;simp [World.cell?,h]
theorem kd2 {B:Nat} {W:World} {x y:PT} {s u:Value} {K N:Int} (hx:KdS B W x s) (hy:KdS B W y u) (hB:B<=W.heap.size):KdS B (W.alloc (.cells #[.int .i64 x.k, .int .i64 x.n,s, .int .i64 y.k, .int .i64 y.n,u] 25)) (.n2 K N x y) (.slice (some ⟨W.heap.size,0,none⟩) 2 2):=by
 have hb:Bk (W.alloc (.cells #[.int .i64 x.k, .int .i64 x.n,s, .int .i64 y.k, .int .i64 y.n,u] 25)) W.heap.size #[.int .i64 x.k, .int .i64 x.n,s, .int .i64 y.k, .int .i64 y.n,u] 25:=Bk.new _ _ rfl;obtain ⟨h0,h1,h2,h3,h4,h5⟩:=hb.six';exact ⟨W.heap.size,0,2,s,u,rfl,hB,h0,h1,h2,h3,h4,h5,hx.keep (bAz (Below.refl _ _) _),hy.keep (bAz (Below.refl _ _) _)⟩
abbrev set3 (W:World) (q:Nat) (a b c:Value):World:=((W.setCell ⟨q,0,none⟩ a).setCell ⟨q,1,none⟩ b).setCell ⟨q,2,none⟩ c
theorem Bk.set012 {W:World} {q:Nat} {x0 x1 x2:Value} {t:TypeId} (h:Bk W q #[x0,x1,x2] t) (a b c:Value):Bk (set3 W q a b c) q #[a,b,c] t:=((h.set 0 a).set 1 b).set 2 c
theorem Bk.free3 {W:World} {q:Nat} {x0 x1 x2:Value} {t:TypeId} (h:Bk W q #[x0,x1,x2] t):W.frozen? ⟨q,0,none⟩=false/\W.frozen? ⟨q,1,none⟩=false/\W.frozen? ⟨q,2,none⟩=false:=by
 unfold Bk at h;simp [World.frozen?,h]
def PkD (dd:Nat) (t:PT):Prop:=dd=0\/pokB t dd=true
def PlPost (B:Nat) (w:World) (g:Nat) (v:Value) (n:Nat) (p m b:Int) (dd:Nat) (e:Ending) (w':World):Prop :=
 ∃ (t:PT) (a:Option Addr) (i c:Nat),e= .returned (pl t.k t.n (.slice a i c))/\t.sm/\(t.n<=b/\PkD dd t)/\KdS w.heap.size w' t (.slice a i c)/\(∃ p':Int,p<=p'/\p'<=p+m/\Rd B w' g v n p')/\Bx g w w'
theorem pl_fin {B:Nat} {w W:World} {g:Nat} {v:Value} {n:Nat} {p q m b:Int} {dd:Nat} {t:PT} {a:Option Addr} {i c:Nat} (hk:KdS (w.heap.size+1) W t (.slice a i c)) (hsm:t.sm) (hn:t.n<=b/\PkD dd t) (hg:g<w.heap.size) (hB:B<=w.heap.size) (hr:Rd B W g v n q) (hx:Bx g w W) (h1:p<=q) (h2:q<=p+m) :
  PlPost B w g v n p m b dd (.returned (pl t.k t.n (.slice a i c))) (set3 W w.heap.size (.int .i64 t.k) (.int .i64 t.n) (.slice a i c)):=by
 have b3:Bx w.heap.size W (set3 W w.heap.size (.int .i64 t.k) (.int .i64 t.n) (.slice a i c)):=(((Bx.refl w.heap.size W).setG (p:=⟨w.heap.size,0,none⟩) rfl _).setG (p:=⟨w.heap.size,1,none⟩) rfl _).setG (p:=⟨w.heap.size,2,none⟩) rfl _;refine ⟨t,a,i,c,rfl,hsm,hn,(hk.keepx b3 (by omega)).less (by omega),⟨q,h1,h2,?_⟩,?_⟩
 ·exact ((hr.apart (by simp;omega) (by simp;omega) _).apart (by simp;omega) (by simp;omega) _).apart (by simp;omega) (by simp;omega) _
 ·exact ((hx.setNew (by simp) _).setNew (by simp) _).setNew (by simp) _
theorem pok_leaf (dd:Nat) {k:Int} (h0:0<=k) (h1:k<2):PkD dd (.n0 1 k):=by
 cases dd with
 | zero=>exact .inl rfl
 | succ d=>right;simp [pokB,hereB,inB,kidN,numLo,numHi,PT.k,PT.len,PT.n];omega
theorem pok_one {d:Nat} {k n:Int} {x:PT} (hd:d≠0) (hx:PkD d x) (h:hereB (.n1 k n x)=true):PkD (d+1) (.n1 k n x):=by
 right;simp only [pokB,h,Bool.true_and];exact hx.resolve_left hd
theorem pok_two {d:Nat} {k n:Int} {x y:PT} (hd:d≠0) (hx:PkD d x) (hy:PkD d y) (h:hereB (.n2 k n x y)=true):PkD (d+1) (.n2 k n x y):=by
 right;simp only [pokB,h,Bool.true_and,hx.resolve_left hd,hy.resolve_left hd]
def stp:Nat->Int
 | 0=>1
 | d+1=>3+2*stp d
theorem stp_pos (d:Nat):1<=stp d:=by
 induction d with
 | zero=>simp [stp]
 | succ d ih=>simp only [stp];omega
theorem l71Plan_leaf {B:Nat} {w:World} {g:Nat} {v:Value} {n:Nat} {p m:Int} {deep:Int} (dd:Nat) (hd:deep<2) (hm:1<=m) (h:Rd B w g v n p) (hp:0<=p) (hp':p<=900000) :
  Calls Tryz.prog 124 #[.pointer (some ⟨g,0,none⟩), .int .i64 deep] w (PlPost B w g v n p m 9 dd):=by
 have hg:=h.blk.lt;have hs:=h.size;have hh:=h.here;have h0:=h.keepb (bAz (Below.refl _ _) (.cells #[.int .i64 0, .int .i64 0, .slice none 0 0] 25));have br:Bk (w.alloc (.cells #[.int .i64 0, .int .i64 0, .slice none 0 0] 25)) w.heap.size #[.int .i64 0, .int .i64 0, .slice none 0 0] 25:=Bk.new _ _ rfl;have x0:Bx g w (w.alloc (.cells #[.int .i64 0, .int .i64 0, .slice none 0 0] 25)):=(Bx.refl _ _).alloc _;have hz0:(w.alloc (.cells #[.int .i64 0, .int .i64 0, .slice none 0 0] 25)).heap.size=w.heap.size+1:=by simp
 go_enter Tryz.func124,Tryz.ntmps124;go_wp2_with fail;refine (pA h0 (by omega) (by omega) _ (by omega) (by omega)).mono ?_;rintro e w1 ⟨k,rfl,k0,k1,hr1,hx1⟩;have br1:=br.keepx hx1 (by omega);have bz:=(br1);obtain ⟨f0,f1,f2⟩:=bz.free3;obtain ⟨z0,z1,z2⟩:=bz.three';obtain ⟨y0,y1,y2⟩:=(bz.set012 (.int .i64 1) (.int .i64 k) (.slice none 0 0)).three';have HF:=(show Hid _ from pl_fin (p:=p) (m:=m) (b:=9) (t:=PT.n0 1 k) (show KdS _ _ _ (.slice none 0 0) from ⟨none,0,rfl⟩) (show (0<=k/\k<=99) by omega) ⟨show (k:Int)<=9 by omega,pok_leaf dd k0 k1⟩ hg hs hr1 (x0.trans hx1) (by omega) (by omega));go_wp2_with fail;refine bodyPost_ret (v:=pl 1 k (.slice none 0 0)) (by simp [results,Tryz.results124,go_sem,y0,y1,y2];try first|rfl|exact ⟨rfl,rfl⟩) rfl ?_
 exact HF.out
theorem l71Plan_more {B:Nat} {w:World} {g:Nat} {v:Value} {n:Nat} {p:Int} {d:Nat} (hd:1<=d) (hd4:d<=4) (h:Rd B w g v n p) (hp:0<=p) (hp':p+3+2*stp d<=900000)
  (hrec:∀ (W:World) (q:Int),Rd B W g v n q->0<=q->q+stp d<=900000->Calls Tryz.prog 124 #[.pointer (some ⟨g,0,none⟩), .int .i64 d] W (PlPost B W g v n q (stp d) 9 d)) :
  Calls Tryz.prog 124 #[.pointer (some ⟨g,0,none⟩), .int .i64 ((d:Int)+1)] w (PlPost B w g v n p (3+2*stp d) 9 (d+1)):=by
 have hg:=h.blk.lt;have hs:=h.size;have hh:=h.here;have h0:=h.keepb (bAz (Below.refl _ _) (.cells #[.int .i64 0, .int .i64 0, .slice none 0 0] 25));have br:Bk (w.alloc (.cells #[.int .i64 0, .int .i64 0, .slice none 0 0] 25)) w.heap.size #[.int .i64 0, .int .i64 0, .slice none 0 0] 25:=Bk.new _ _ rfl;have x0:Bx g w (w.alloc (.cells #[.int .i64 0, .int .i64 0, .slice none 0 0] 25)):=(Bx.refl _ _).alloc _;have hz0:(w.alloc (.cells #[.int .i64 0, .int .i64 0, .slice none 0 0] 25)).heap.size=w.heap.size+1:=by simp
 have hsp:=stp_pos d;have hdp:d≠0:=by omega
 have h2:¬ ((d:Int)+1<2):=by omega
 have hd1:(d:Int)+1-1=(d:Int):=by omega
 have HR:=(show Hid _ from hrec);clear hrec;generalize stp d=st at *;go_enter Tryz.func124,Tryz.ntmps124;go_wp2_with fail;refine (pA h0 (by omega) (by omega) _ (by omega) (by omega)).mono ?_;rintro e w1 ⟨k,rfl,k0,k1,hr1,hx1⟩;have br1:=br.keepx hx1 (by omega);have hx01:=x0.trans hx1;have hz1:=hx1.size;rw [hz0] at hz1;clear x0 hx1 br h0 hz0
 by_cases hk:k=0
 ·subst hk;go_wp2_with fail;refine (pA hr1 (by omega) (by omega) _ (by omega) (by omega)).mono ?_;rintro e w2 ⟨j,rfl,j0,j1,hr2,hx2⟩;have br2:=br1.keepx hx2 (by omega);have bz:=(br2);obtain ⟨f0,f1,f2⟩:=bz.free3;obtain ⟨z0,z1,z2⟩:=bz.three';obtain ⟨y0,y1,y2⟩:=(bz.set012 (.int .i64 1) (.int .i64 j) (.slice none 0 0)).three';have HF:=(show Hid _ from pl_fin (p:=p) (m:=3+2*st) (b:=9) (t:=PT.n0 1 j) (show KdS _ _ _ (.slice none 0 0) from ⟨none,0,rfl⟩) (show (0<=j/\j<=99) by omega) ⟨show (j:Int)<=9 by omega,pok_leaf (d+1) j0 j1⟩ hg hs hr2 (hx01.trans hx2) (by omega) (by omega));go_wp2_with fail;refine bodyPost_ret (v:=pl 1 j (.slice none 0 0)) (by simp [results,Tryz.results124,go_sem,y0,y1,y2];try first|rfl|exact ⟨rfl,rfl⟩) rfl ?_
  exact HF.out
 ·have hkb:(k==0)=false:=by simpa using hk
  go_wp2_with fail;refine (pA hr1 (by omega) (by omega) _ (by omega) (by omega)).mono ?_;rintro e w2 ⟨m,rfl,m0,m1,hr2,hx2⟩;have br2:=br1.keepx hx2 (by omega);have hx02:=hx01.trans hx2;have hz2:=hx2.size;clear hx01 hx2 br1 hr1 hkb hk;have hc:m=0\/m=1\/m=2\/m=3\/(4<=m):=by omega
  rcases hc with rfl|rfl|rfl|rfl|hc
  ·go_wp2_with fail;refine (pA hr2 (by omega) (by omega) _ (by omega) (by omega)).mono ?_;rintro e w3 ⟨j,rfl,j0,j1,hr3,hx3⟩;have br3:=br2.keepx hx3 (by omega);have hx03:=hx02.trans hx3;have hz3:=hx3.size;clear hx02 hx3 br2 hr2;go_wp2_with fail;refine Calls.mono (HR.out w3 _ hr3 (by omega) (by omega)) ?_;rintro e w4 ⟨tx,ax,ix,cx,rfl,smx,nnx,kdx,⟨px,lx,ux,hrx⟩,hxx⟩;have br4:=br3.keepx hxx (by omega);have hx04:=hx03.trans hxx;have hz4:=hxx.size;have kx:=kd1 (K:=2) (N:=(1+j)) (kdx.less (B':=w.heap.size+1) (by omega)) (by omega);have bz:=(br4.alloc (.cells #[.int .i64 tx.k, .int .i64 tx.n, .slice ax ix cx] 25));obtain ⟨f0,f1,f2⟩:=bz.free3;obtain ⟨z0,z1,z2⟩:=bz.three';obtain ⟨y0,y1,y2⟩:=(bz.set012 (.int .i64 2) (.int .i64 (1+j)) (.slice (some ⟨w4.heap.size,0,none⟩) 1 1)).three';have HF:=(show Hid _ from pl_fin (p:=p) (m:=3+2*st) (b:=9) (t:=PT.n1 2 (1+j) tx) kx (show (0<=1+j/\1+j<=99)/\tx.sm from ⟨by omega,smx⟩) ⟨show ((1+j):Int)<=9 by omega,pok_one hdp nnx.2 (by simp [hereB,inB,kidN,numLo,numHi,PT.k,PT.len,PT.n];omega)⟩ hg hs (hrx.keepb (bAz (Below.refl _ _) _)) (hx04.alloc _) (by omega) (by omega));go_wp2_with fail;refine bodyPost_ret (v:=pl 2 (1+j) (.slice (some ⟨w4.heap.size,0,none⟩) 1 1)) (by simp [results,Tryz.results124,go_sem,y0,y1,y2];try first|rfl|exact ⟨rfl,rfl⟩) rfl ?_
   exact HF.out
  ·go_wp2_with fail;refine Calls.mono (HR.out w2 _ hr2 (by omega) (by omega)) ?_;rintro e w3 ⟨tx,ax,ix,cx,rfl,smx,nnx,kdx,⟨px,lx,ux,hrx⟩,hxx⟩;have br3:=br2.keepx hxx (by omega);have hx03:=hx02.trans hxx;have hz3:=hxx.size;go_wp2_with fail;refine Calls.mono (HR.out w3 _ hrx (by omega) (by omega)) ?_;rintro e w4 ⟨ty,ay,iy,cy,rfl,smy,nny,kdy,⟨py,ly,uy,hry⟩,hxy⟩;have br4:=br3.keepx hxy (by omega);have hx04:=hx03.trans hxy;have hz4:=hxy.size;have kx:=kd2 (K:=3) (N:=0) ((kdx.keepx hxy (by omega)).less (B':=w.heap.size+1) (by omega)) (kdy.less (B':=w.heap.size+1) (by omega)) (by omega);have bz:=(br4.alloc (.cells #[.int .i64 tx.k, .int .i64 tx.n, .slice ax ix cx, .int .i64 ty.k, .int .i64 ty.n, .slice ay iy cy] 25));obtain ⟨f0,f1,f2⟩:=bz.free3;obtain ⟨z0,z1,z2⟩:=bz.three';obtain ⟨y0,y1,y2⟩:=(bz.set012 (.int .i64 3) (.int .i64 0) (.slice (some ⟨w4.heap.size,0,none⟩) 2 2)).three';have HF:=(show Hid _ from pl_fin (p:=p) (m:=3+2*st) (b:=9) (t:=PT.n2 3 0 tx ty) kx (show ((0:Int)<=0/\(0:Int)<=99)/\tx.sm/\ty.sm from ⟨by omega,smx,smy⟩) ⟨show (0:Int)<=9 by omega,pok_two hdp nnx.2 nny.2 (by simp [hereB,inB,kidN,numLo,numHi,PT.k,PT.len,PT.n])⟩ hg hs (hry.keepb (bAz (Below.refl _ _) _)) (hx04.alloc _) (by omega) (by omega));go_wp2_with fail;refine bodyPost_ret (v:=pl 3 0 (.slice (some ⟨w4.heap.size,0,none⟩) 2 2)) (by simp [results,Tryz.results124,go_sem,y0,y1,y2];try first|rfl|exact ⟨rfl,rfl⟩) rfl ?_
   exact HF.out
  ·go_wp2_with fail;refine Calls.mono (HR.out w2 _ hr2 (by omega) (by omega)) ?_;rintro e w4 ⟨tx,ax,ix,cx,rfl,smx,nnx,kdx,⟨px,lx,ux,hrx⟩,hxx⟩;have br4:=br2.keepx hxx (by omega);have hx04:=hx02.trans hxx;have hz4:=hxx.size;have kx:=kd1 (K:=4) (N:=0) (kdx.less (B':=w.heap.size+1) (by omega)) (by omega);have bz:=(br4.alloc (.cells #[.int .i64 tx.k, .int .i64 tx.n, .slice ax ix cx] 25));obtain ⟨f0,f1,f2⟩:=bz.free3;obtain ⟨z0,z1,z2⟩:=bz.three';obtain ⟨y0,y1,y2⟩:=(bz.set012 (.int .i64 4) (.int .i64 0) (.slice (some ⟨w4.heap.size,0,none⟩) 1 1)).three';have HF:=(show Hid _ from pl_fin (p:=p) (m:=3+2*st) (b:=9) (t:=PT.n1 4 0 tx) kx (show ((0:Int)<=0/\(0:Int)<=99)/\tx.sm from ⟨by omega,smx⟩) ⟨show (0:Int)<=9 by omega,pok_one hdp nnx.2 (by simp [hereB,inB,kidN,numLo,numHi,PT.k,PT.len,PT.n])⟩ hg hs (hrx.keepb (bAz (Below.refl _ _) _)) (hx04.alloc _) (by omega) (by omega));go_wp2_with fail;refine bodyPost_ret (v:=pl 4 0 (.slice (some ⟨w4.heap.size,0,none⟩) 1 1)) (by simp [results,Tryz.results124,go_sem,y0,y1,y2];try first|rfl|exact ⟨rfl,rfl⟩) rfl ?_
   exact HF.out
  ·go_wp2_with fail;refine Calls.mono (HR.out w2 _ hr2 (by omega) (by omega)) ?_;rintro e w3 ⟨tx,ax,ix,cx,rfl,smx,nnx,kdx,⟨px,lx,ux,hrx⟩,hxx⟩;have br3:=br2.keepx hxx (by omega);have hx03:=hx02.trans hxx;have hz3:=hxx.size;go_wp2_with fail;refine Calls.mono (HR.out w3 _ hrx (by omega) (by omega)) ?_;rintro e w4 ⟨ty,ay,iy,cy,rfl,smy,nny,kdy,⟨py,ly,uy,hry⟩,hxy⟩;have br4:=br3.keepx hxy (by omega);have hx04:=hx03.trans hxy;have hz4:=hxy.size;have kx:=kd2 (K:=5) (N:=0) ((kdx.keepx hxy (by omega)).less (B':=w.heap.size+1) (by omega)) (kdy.less (B':=w.heap.size+1) (by omega)) (by omega);have bz:=(br4.alloc (.cells #[.int .i64 tx.k, .int .i64 tx.n, .slice ax ix cx, .int .i64 ty.k, .int .i64 ty.n, .slice ay iy cy] 25));obtain ⟨f0,f1,f2⟩:=bz.free3;obtain ⟨z0,z1,z2⟩:=bz.three';obtain ⟨y0,y1,y2⟩:=(bz.set012 (.int .i64 5) (.int .i64 0) (.slice (some ⟨w4.heap.size,0,none⟩) 2 2)).three';have HF:=(show Hid _ from pl_fin (p:=p) (m:=3+2*st) (b:=9) (t:=PT.n2 5 0 tx ty) kx (show ((0:Int)<=0/\(0:Int)<=99)/\tx.sm/\ty.sm from ⟨by omega,smx,smy⟩) ⟨show (0:Int)<=9 by omega,pok_two hdp nnx.2 nny.2 (by simp [hereB,inB,kidN,numLo,numHi,PT.k,PT.len,PT.n])⟩ hg hs (hry.keepb (bAz (Below.refl _ _) _)) (hx04.alloc _) (by omega) (by omega));go_wp2_with fail;refine bodyPost_ret (v:=pl 5 0 (.slice (some ⟨w4.heap.size,0,none⟩) 2 2)) (by simp [results,Tryz.results124,go_sem,y0,y1,y2];try first|rfl|exact ⟨rfl,rfl⟩) rfl ?_
   exact HF.out
  ·have m0:(m==0)=false:=by simp;omega
   have m1:(m==1)=false:=by simp;omega
   have m2:(m==2)=false:=by simp;omega
   have m3:(m==3)=false:=by simp;omega
   go_wp2_with fail;refine (pA hr2 (by omega) (by omega) _ (by omega) (by omega)).mono ?_;rintro e w3 ⟨j,rfl,j0,j1,hr3,hx3⟩;have br3:=br2.keepx hx3 (by omega);have hx03:=hx02.trans hx3;have hz3:=hx3.size;clear hx02 hx3 br2 hr2;go_wp2_with fail;refine Calls.mono (HR.out w3 _ hr3 (by omega) (by omega)) ?_;rintro e w4 ⟨tx,ax,ix,cx,rfl,smx,nnx,kdx,⟨px,lx,ux,hrx⟩,hxx⟩;have br4:=br3.keepx hxx (by omega);have hx04:=hx03.trans hxx;have hz4:=hxx.size;have kx:=kd1 (K:=6) (N:=(1+j)) (kdx.less (B':=w.heap.size+1) (by omega)) (by omega);have bz:=(br4.alloc (.cells #[.int .i64 tx.k, .int .i64 tx.n, .slice ax ix cx] 25));obtain ⟨f0,f1,f2⟩:=bz.free3;obtain ⟨z0,z1,z2⟩:=bz.three';obtain ⟨y0,y1,y2⟩:=(bz.set012 (.int .i64 6) (.int .i64 (1+j)) (.slice (some ⟨w4.heap.size,0,none⟩) 1 1)).three';have HF:=(show Hid _ from pl_fin (p:=p) (m:=3+2*st) (b:=9) (t:=PT.n1 6 (1+j) tx) kx (show (0<=1+j/\1+j<=99)/\tx.sm from ⟨by omega,smx⟩) ⟨show ((1+j):Int)<=9 by omega,pok_one hdp nnx.2 (by simp [hereB,inB,kidN,numLo,numHi,PT.k,PT.len,PT.n];omega)⟩ hg hs (hrx.keepb (bAz (Below.refl _ _) _)) (hx04.alloc _) (by omega) (by omega));go_wp2_with fail;refine bodyPost_ret (v:=pl 6 (1+j) (.slice (some ⟨w4.heap.size,0,none⟩) 1 1)) (by simp [results,Tryz.results124,go_sem,y0,y1,y2];try first|rfl|exact ⟨rfl,rfl⟩) rfl ?_
   exact HF.out
theorem l71Plan_any (d:Nat) {B:Nat} {g:Nat} {v:Value} {n:Nat}:∀ {w:World} {p:Int},d<=4->Rd B w g v n p->0<=p->p+stp d<=900000->Calls Tryz.prog 124 #[.pointer (some ⟨g,0,none⟩), .int .i64 d] w (PlPost B w g v n p (stp d) 9 d):=by
 induction d with
 | zero=>intro w p hd h hp hp';exact l71Plan_leaf _ (by omega) (stp_pos _) h hp (by have:=stp_pos 0;omega)
 | succ d ih =>
  intro w p hd h hp hp';have h1:=stp_pos d;simp only [stp] at hp' ⊢
  by_cases hd1:d=0
  ·subst hd1;exact l71Plan_leaf _ (by omega) (by omega) h hp (by omega)
  ·exact l71Plan_more (by omega) (by omega) h hp (by omega) fun W q hr hq hq'=>ih (by omega) hr hq hq'
end Go.Proofs.YtbdpcngcbnoioaaGreatDoor
