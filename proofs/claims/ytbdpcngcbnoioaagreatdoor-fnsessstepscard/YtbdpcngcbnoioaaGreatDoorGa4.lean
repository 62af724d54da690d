import Derived.Test.YtbdpcngcbnoioaaGreatDoorGa1
set_option maxHeartbeats 4000000
namespace Go.Proofs.YtbdpcngcbnoioaaGreatDoor
open Go.RowKit
open Go renaming bodyPost_ret->fD,World->fH,IntKind->fV,Value->gY,Calls->gZ,Addr->iC
open Go.Proofs.Tryz renaming results64->jU,prog->kR,ntmps60->kX,func60->lI,results61->lY,ntmps58->mF,func58->mJ
open Go.RowKit.Below renaming refl->nU,heap_setCell->oJ
open _root_.Int renaming emod_lt_of_pos->oO,emod_nonneg->qA,eq_ofNat_of_zero_le->rN
open _root_.BitVec renaming ofInt->sE,ofInt_natCast->sG,toNat_ofNat->sH
open _root_.Nat renaming le_refl->sI,lt_of_lt_of_le->wH,mod_eq_of_lt->wR,le_trans->AT,mod_lt->B3
open Go.World renaming size_alloc->BK,setCell->E0
open Go.RowKit renaming Below->EJ
variable {B g n:Nat}{a w w1:fH}{p:Int}{v:gY}
structure Bx (g:Nat)(w w':fH):Prop where
 os:w'.os=w.os
 tape:w'.tape=w.tape
 output:w'.output=w.output
 size:w.heap.size<=w'.heap.size
 block:∀k,k<w.heap.size->k≠g->w'.heap[k]?=w.heap[k]?
theorem Bx.refl (g:Nat)(w:fH):Bx g w w:=⟨rfl,rfl,rfl,sI _,fun _ _ _=>rfl⟩
theorem Bx.trans {b c:fH}(h:Bx g a b)(k:Bx g b c):Bx g a c:=
 ⟨k.os.trans h.os,k.tape.trans h.tape,k.output.trans h.output,AT h.size k.size,fun i hi hg=>(k.block i (wH hi h.size) hg).trans (h.block i hi hg)⟩
theorem Bx.alloc (h:Bx g a w)(o:Obj):Bx g a (w.alloc o):=
 h.trans ⟨rfl,rfl,rfl,by simp,fun _ s _=>EJ.heap_alloc _ _ _ s⟩
theorem Bx.drew (h:Bx g a w):Bx g a w.drew:=⟨h.os,h.tape,h.output,h.size,h.block⟩
theorem Bx.drewN (h:Bx g a w)(n:Nat):Bx g a (w.drewN n):=⟨h.os,h.tape,h.output,h.size,h.block⟩
theorem Bx.ae (h:Bx g a w){p:iC}(hp:p.block=g)(u:gY):Bx g a (w.setCell p u):=
 h.trans ⟨rfl,rfl,rfl,by simp[E0],fun k _ hg=>oJ _ _ _ _ (by omega)⟩
theorem Bx.aC (h:Bx g a w){p:iC}(hp:a.heap.size<=p.block)(u:gY):Bx g a (w.setCell p u):=
 ⟨h.os,h.tape,h.output,by simpa[E0]using h.size,fun k s hg=>by rw[oJ _ _ _ _ (by omega)];exact h.block k s hg⟩
theorem Bx.aA {w':fH}(h:EJ w.heap.size w w'):Bx g w w':=⟨h.os,h.tape,h.output,h.size,fun k s _=>h.block k s⟩
theorem Bx.below {w0 w':fH}(h:Bx g w w')(h0:EJ B w0 w)(A:B<=w.heap.size)(hg:B<=g):EJ B w0 w':=
 h0.trans ⟨h.os,h.tape,h.output,h.size,fun k s=>h.block k (by omega) (by omega)⟩
theorem Bk.aN {k:Nat}{c:Array gY}{t:TypeId}(h:Bk w k c t)(A:Bx g w w1)(s:k≠g):Bk w1 k c t:=by
 unfold Bk;rw[A.block k h.lt s];exact h
def Src (w:fH)(v:gY)(n:Nat):Prop:=
 ∃a cap,v=.slice a n cap/\n<=cap/\cap<=maxLen/\∀i:Nat,i<n->∃(b off:Nat)(z:Int),a=some ⟨b,off,none⟩/\b<w.heap.size/\w.cell? ⟨b,off+i,none⟩=some (.int .u8 z)/\0<=z/\z<=255
theorem Src.nil (w:fH):Src w (.slice none 0 0) 0:=⟨none,0,rfl,sI _,by unfold maxLen;omega,fun i h=>by omega⟩
theorem O7 {n:Int}(h:(Lit.int .u8 n).wf=true):0<=n/\n<=255:=by
 simp[Lit.wf,fV.min,fV.max,fV.signed,fV.bits]at h;omega
theorem Src.cq {x:iC}{len A:Nat}{s:List Int}(hl:len<=A)(hm:A<=maxLen)(N:s.length=A)(D:∀i,i<s.length->w.cell? (x.add i)=some (.int .u8 (s.getD i 0)))(J:∀n∈s,(Lit.int .u8 n).wf=true):
  Src w (.slice (some x) len A) len:=by
 refine⟨some x,A,rfl,hl,hm,fun i hi=>?_⟩;obtain⟨b,off,H⟩:=x;have F:H=none:=by
  have h0:=fH.cell?_spot (D 0 (by omega))
  simpa[iC.add]using h0
 subst F;have G:w.cell? ⟨b,off+i,none⟩=some (.int .u8 (s.getD i 0)):=by
  have M:=D i (by omega)
  by_cases h0:i=0
  ·subst h0;simpa[iC.add]using M
  ·simpa[iC.add,h0]using M
 have I:s.getD i 0∈s:=by
  have L:i<s.length:=by omega
  simp[List.getD,List.getElem?_eq_getElem L]
 obtain⟨h0,h1⟩:=O7 (J _ I);exact⟨b,off,s.getD i 0,rfl,lC G,G,h0,h1⟩
theorem Src.keep (h:Src w v n)(A:EJ w.heap.size w w1):Src w1 v n:=by
 obtain⟨a,D,rfl,h1,h2,h3⟩:=h;refine⟨a,D,rfl,h1,h2,fun i hi=>?_⟩;obtain⟨b,off,z,rfl,s,F,h4,h5⟩:=h3 i hi;exact⟨b,off,z,rfl,wH s A.size,cB A F,h4,h5⟩
structure Rd (B:Nat)(w:fH)(g:Nat)(v:gY)(n:Nat)(p:Int):Prop where
 blk:Bk w g #[v,.int .i64 p] 144
 bytes:∃a cap,v=.slice a n cap/\n<=cap/\cap<=maxLen/\∀i:Nat,i<n->∃(b off:Nat)(z:Int),a=some ⟨b,off,none⟩/\b<B/\w.cell? ⟨b,off+i,none⟩=some (.int .u8 z)/\0<=z/\z<=255
 few:n<=2000
 here:B<=g
 size:B<=w.heap.size
theorem Rd.aN {q:Int}(h:Rd B w g v n p)(A:Bx g w w1)(hq:Bk w1 g #[v,.int .i64 q] 144):Rd B w1 g v n q:=by
 refine⟨hq,?_,h.few,h.here,AT h.size A.size⟩;obtain⟨a,D,rfl,h1,h2,h3⟩:=h.bytes;refine⟨a,D,rfl,h1,h2,fun i hi=>?_⟩;obtain⟨b,off,z,rfl,s,F,h4,h5⟩:=h3 i hi;have hs:=h.size;have G:=h.here;refine⟨b,off,z,rfl,s,?_,h4,h5⟩;rw[fH.cell?_of_block (w:=w) (A.block b (by omega) (by omega))];exact F
theorem Rd.aX (h:Rd B w g v n p)(s:EJ w.heap.size w w1):Rd B w1 g v n p:=
 h.aN (Bx.aA s) (h.blk.keep s)
theorem Fv {k:fV}{a b:Int}(h:a=b):Ending.returned (.int k a)=.returned (.int k b):=by rw[h]
theorem AM (a b:Nat)(ha:a<4611686018427387904)(s:b<4611686018427387904):
  bits .xor .i64 (a:Int) (b:Int)=((a ^^^ b:Nat):Int):=by
 have hx:a ^^^ b<2^62:=Nat.xor_lt_two_pow (by omega) (by omega);have h1:(sE 64 (a:Int)).toNat=a:=by
  rw[sG,sH];exact wR (by omega)
 have h2:(sE 64 (b:Int)).toNat=b:=by
  rw[sG,sH];exact wR (by omega)
 show fV.i64.wrap ((sE 64 (a:Int) ^^^ sE 64 (b:Int)).toNat:Int)=_
 rw[BitVec.toNat_xor,h1,h2,fV.wrap_i64];omega
theorem Jf (x m:Int)(h0:0<=x)(h1:x<4611686018427387904)(hm:1<=m):0<=(bits .xor .i64 x (x / 64)).tmod m/\(bits .xor .i64 x (x / 64)).tmod m<m:=by
 obtain⟨X,rfl⟩:=rN h0;have e:((X:Int) / 64)=((X / 64:Nat):Int):=by omega
 rw[e,AM _ _ (by omega) (by omega)];rw[Int.tmod_eq_emod_of_nonneg (by omega)];exact⟨qA _ (by omega),oO _ (by omega)⟩
theorem xF (h:Rd B w g v n p):
  Rd B (w.setCell ⟨g,1,none⟩ (.int .i64 (p+1))) g v n (p+1)/\Bx g w (w.setCell ⟨g,1,none⟩ (.int .i64 (p+1))):=
 have hx:Bx g w (w.setCell ⟨g,1,none⟩ (.int .i64 (p+1))):=(Bx.refl g w).ae rfl _
 ⟨h.aN hx (h.blk.set 1 _),hx⟩
theorem Jk (h:Rd B w g v 0 p)(hp:0<=p)(s:p<=1000000)(m:Int)(hm:1<=m):
  gZ kR 60 #[.pointer (some ⟨g,0,none⟩),.int .i64 m] w fun e w'=>∃k:Int,e=.returned (.int .i64 k)/\0<=k/\k<m/\Rd B w' g v 0 (p+1)/\Bx g w w':=by
 obtain⟨hr,hx⟩:=xF h;obtain⟨H,c1,F,D⟩:=h.blk.two;obtain⟨G,d1,_,_⟩:=hr.blk.two;obtain⟨a,A,rfl,h1,h2,_⟩:=h.bytes;go_enter lI,kX
 go_wp2
 go_ret;exact⟨0,rfl,by omega,by omega,hr,hx⟩
theorem Ll {p:Nat}(h:Rd B w g v n p)(hp:p<n)(m:Int)(hm:1<=m)(D:m<=1000):
  gZ kR 60 #[.pointer (some ⟨g,0,none⟩),.int .i64 m] w fun e w'=>∃k:Int,e=.returned (.int .i64 k)/\0<=k/\k<m/\Rd B w' g v n (p+1)/\Bx g w w':=by
 obtain⟨hr,hx⟩:=xF h;obtain⟨M,c1,J,I⟩:=h.blk.two;obtain⟨L,d1,_,_⟩:=hr.blk.two;have hn:=h.few;obtain⟨a,F,rfl,h1,h2,h3⟩:=hr.bytes;obtain⟨b,off,z,rfl,H,G,A,s⟩:=h3 p hp;unfold maxLen at h2;clear h3;have e0:((n:Int)==0)=false:=by simp;omega
 go_enter lI,kX
 go_wp2
 go_ret;exact⟨z%m,rfl,qA _ (by omega),oO _ (by omega),hr,hx⟩
theorem KQ {p:Nat}(h:Rd B w g v n p)(s:0<n)(hp:n<=p)(O:p<=1000000)(m:Int)(hm:1<=m)(Q:m<=1000):
  gZ kR 60 #[.pointer (some ⟨g,0,none⟩),.int .i64 m] w fun e w'=>∃k:Int,e=.returned (.int .i64 k)/\0<=k/\k<m/\Rd B w' g v n (p+1)/\Bx g w w':=by
 obtain⟨hr,hx⟩:=xF h;obtain⟨c0,c1,f0,f1⟩:=h.blk.two;obtain⟨d0,d1,_,_⟩:=hr.blk.two;have hn:=h.few;obtain⟨a,T,rfl,h1,h2,h3⟩:=hr.bytes;have I:p%n<n:=B3 _ s;have H:(p*7+3)%n<n:=B3 _ s;obtain⟨b,off,z,rfl,hb,Z,L,J⟩:=h3 (p%n) I;obtain⟨b',G,y,A,S,R,N,M⟩:=h3 ((p*7+3)%n) H;simp at A;obtain⟨rfl,rfl⟩:=A;unfold maxLen at h2;clear h3;have e0:((n:Int)==0)=false:=by simp;omega
 have e1:decide ((p:Int)<(n:Int))=false:=by simp;omega
 have e2:decide (m<1)=false:=by simp;omega
 have Y:(0:Int)<=((p:Int)*7+3)%(n:Int):=qA _ (by omega);have W:((p:Int)*7+3)%(n:Int)<(n:Int):=oO _ (by omega);have V:(0:Int)<=(p:Int) / (n:Int):=Int.ediv_nonneg (by omega) (by omega);have U:(p:Int) / (n:Int)<=(p:Int):=Int.ediv_le_self _ (by omega);go_enter lI,kX
 go_wp2
 go_quiet (fail)
 go_wp2
 go_ret;obtain⟨F,D⟩:=Jf (z*131+y*1117+p*29+p / n*53) m (by omega) (by omega) hm;exact⟨_,rfl,F,D,hr.aX (dC (nU _ _) _),hx.drewN _⟩
theorem pA (h:Rd B w g v n p)(hp:0<=p)(A:p<=1000000)(m:Int)(hm:1<=m)(s:m<=1000):
  gZ kR 60 #[.pointer (some ⟨g,0,none⟩),.int .i64 m] w fun e w'=>∃k:Int,e=.returned (.int .i64 k)/\0<=k/\k<m/\Rd B w' g v n (p+1)/\Bx g w w':=by
 obtain⟨q,rfl⟩:=rN hp
 by_cases h0:n=0
 ·subst h0;exact Jk h hp A m hm
 ·by_cases h1:q<n
  ·exact Ll h h1 m hm s
  ·exact KQ h (by omega) (by omega) (by omega) m hm s
theorem Rd.apart (h:Rd B w g v n p){q:iC}(hq:g≠q.block)(F:B<=q.block)(u:gY):Rd B (w.setCell q u) g v n p:=by
 refine⟨h.blk.apart hq u,?_,h.few,h.here,by simpa[E0]using h.size⟩;obtain⟨a,A,rfl,h1,h2,h3⟩:=h.bytes;refine⟨a,A,rfl,h1,h2,fun i hi=>?_⟩;obtain⟨b,off,z,rfl,s,D,h4,h5⟩:=h3 i hi;exact⟨b,off,z,rfl,s,kW D (by omega),h4,h5⟩
theorem tR (h:Rd B w g v n p)(hp:0<=p)(x2:p<=900000):
  gZ kR 61 #[.pointer (some ⟨g,0,none⟩)] w fun e w'=>∃a b:Int,e=.returned (tv a b)/\0<=a/\a<=7/\0<=b/\b<=7/\(∃M:Int,p<=M/\M<=p+3/\Rd B w' g v n M)/\Bx g w w':=by
 have hg:=h.blk.lt;have hs:=h.size;have hh:=h.here;have h0:=h.aX (aG (nU _ _) (.cells #[.int .i64 0,.int .i64 0] 32));have br:Bk (w.alloc (.cells #[.int .i64 0,.int .i64 0] 32)) w.heap.size #[.int .i64 0,.int .i64 0] 32:=Bk.new _ _ rfl;have N:Bx g w (w.alloc (.cells #[.int .i64 0,.int .i64 0] 32)):=(Bx.refl _ _).alloc _;go_enter Tryz.func61,Tryz.ntmps61;go_wp2_with fail;refine (pA h0 hp (by omega) _ (by omega) (by omega)).mono ?_;rintro e w1 ⟨k,rfl,x5,x4,J,F⟩;have L:=br.aN F (by omega)
 by_cases O:k=0
 ·subst O;go_wp2_with fail;refine (pA J (by omega) (by omega) _ (by omega) (by omega)).mono ?_;rintro e V ⟨a,rfl,T,S,H,D⟩;have I:=L.aN D (by omega);go_wp2_with fail;refine (pA H (by omega) (by omega) _ (by omega) (by omega)).mono ?_;rintro e U ⟨b,rfl,R,Q,G,A⟩;have s:=I.aN A (by omega);obtain⟨Y,W,f0,Z⟩:=s.two;go_wp2_with fail;refine fD (by simp[results,lY,go_sem,kM s,kK s];try rfl) rfl ?_;exact⟨a,b,rfl,by omega,by omega,by omega,by omega,⟨_,by omega,by omega,(G.apart (by simp;omega) (by simp;omega) _).apart (by simp;omega) (by simp;omega) _⟩,((((N.trans F).trans D).trans A).aC (by simp) _).aC (by simp) _⟩
 ·have x3:(k==0)=false:=by simpa using O
  go_wp2_with fail;refine (pA J (by omega) (by omega) _ (by omega) (by omega)).mono ?_;rintro e V ⟨a,rfl,T,S,H,D⟩;have I:=L.aN D (by omega);go_wp2_with fail;refine (pA H (by omega) (by omega) _ (by omega) (by omega)).mono ?_;rintro e U ⟨b,rfl,R,Q,G,A⟩;have s:=I.aN A (by omega);obtain⟨Y,W,f0,Z⟩:=s.two;go_wp2_with fail;refine fD (by simp[results,lY,go_sem,kM s,kK s];try rfl) rfl ?_;exact⟨a,b,rfl,by omega,by omega,by omega,by omega,⟨_,by omega,by omega,(G.apart (by simp;omega) (by simp;omega) _).apart (by simp;omega) (by simp;omega) _⟩,((((N.trans F).trans D).trans A).aC (by simp) _).aC (by simp) _⟩
theorem Rd.new {a:Option iC}{len s k:Nat}(F:k<=len)(hf:k<=2000)(h1:len<=s)(h2:s<=maxLen)
  (h3:∀i:Nat,i<len->∃(b off:Nat)(z:Int),a=some ⟨b,off,none⟩/\b<w.heap.size/\w.cell? ⟨b,off+i,none⟩=some (.int .u8 z)/\0<=z/\z<=255):
  Rd w.heap.size (w.alloc (.cells #[.slice a k s,.int .i64 0] 144)) w.heap.size (.slice a k s) k 0:=by
 refine⟨Bk.new _ _ rfl,⟨a,s,rfl,by omega,h2,fun i hi=>?_⟩,hf,sI _,by simp⟩;obtain⟨b,off,z,rfl,D,A,h4,h5⟩:=h3 i (by omega);exact⟨b,off,z,rfl,D,vE A,h4,h5⟩
theorem BB (a:Option iC)(len s:Nat)(w:fH)(h:Src w (.slice a len s) len):
  gZ kR 58 #[.slice a len s] w fun e w'=>e=.returned (.pointer (some ⟨w.heap.size,0,none⟩))/\(∃v n,Rd w.heap.size w' w.heap.size v n 0)/\EJ w.heap.size w w':=by
 obtain⟨a',D,e,h1,h2,h3⟩:=h;simp at e;obtain⟨rfl,rfl⟩:=e;have A:=h2;unfold maxLen at A
 by_cases hl:(2000:Int)<(len:Int)
 ·have R:=Rd.new (k:=2000) (by omega) (by omega) h1 h2 h3;clear h3;go_enter mJ,mF
  go_wp2
  go_ret;exact⟨rfl,⟨_,_,R⟩,aG (nU _ _) _⟩
 ·have R:=Rd.new (k:=len) (by omega) (by omega) h1 h2 h3;clear h3;go_enter mJ,mF
  go_wp2
  go_ret;exact⟨rfl,⟨_,_,R⟩,aG (nU _ _) _⟩
theorem Aa (h:Rd B w g v n p)(hp:0<=p)(v6:p<=900000):
  gZ kR 64 #[.pointer (some ⟨g,0,none⟩)] w fun e w'=>∃a b:Int,e=.returned (tv a b) /\ -1<=a/\a<=8 /\ -1<=b/\b<=8/\(∃p':Int,p<=p'/\p'<=p+5/\Rd B w' g v n p')/\Bx g w w':=by
 have hg:=h.blk.lt;have hs:=h.size;have hh:=h.here;have h0:=h.aX (aG (nU _ _) (.cells #[.int .i64 0,.int .i64 0] 32));have br:Bk (w.alloc (.cells #[.int .i64 0,.int .i64 0] 32)) w.heap.size #[.int .i64 0,.int .i64 0] 32:=Bk.new _ _ rfl;have x0:Bx g w (w.alloc (.cells #[.int .i64 0,.int .i64 0] 32)):=(Bx.refl _ _).alloc _;go_enter Tryz.func64,Tryz.ntmps64;go_wp2_with fail;refine (tR h0 hp (by omega)).mono ?_;rintro e w1 ⟨a,b,rfl,w8,w7,w4,w2,⟨p1,v5,v4,z1⟩,R⟩;have y1:=br.aN R (by omega);have v3:=y1.lt;have y9:=R.size;simp only[BK]at y9;go_wp2_with fail;have z0:=z1.aX (aG (nU _ _) (.cells #[.int .i64 a,.int .i64 b] 32));have z7:Bk (w1.alloc (.cells #[.int .i64 a,.int .i64 b] 32)) w1.heap.size #[.int .i64 a,.int .i64 b] 32:=Bk.new _ _ rfl;have z8:=y1.alloc (.cells #[.int .i64 a,.int .i64 b] 32);have x2:Bx g w (w1.alloc (.cells #[.int .i64 a,.int .i64 b] 32)):=(x0.trans R).alloc _;refine (pA z0 (by omega) (by omega) _ (by omega) (by omega)).mono ?_;rintro e w3 ⟨k,rfl,v9,v8,T,H⟩;have L:=z8.aN H (by omega);have W:=z7.aN H (by omega);have x3:=x2.trans H
 by_cases hk:k=0
 ·subst hk;go_wp2_with fail;have S:=T.aX (aG (nU _ _) (.cells #[.int .i64 (-1),.int .i64 8] 3));have h9:Bk (w3.alloc (.cells #[.int .i64 (-1),.int .i64 8] 3)) w3.heap.size #[.int .i64 (-1),.int .i64 8] 3:=Bk.new _ _ rfl;have Y:=L.alloc (.cells #[.int .i64 (-1),.int .i64 8] 3);have V:=W.alloc (.cells #[.int .i64 (-1),.int .i64 8] 3);have x4:=x3.alloc (.cells #[.int .i64 (-1),.int .i64 8] 3);have Q:=H.size;simp only[BK]at Q;refine (pA S (by omega) (by omega) _ (by omega) (by omega)).mono ?_;rintro e O ⟨j,rfl,z4,z3,I,A⟩;have J:=Y.aN A (by omega);have G:=V.aN A (by omega);have Z:=h9.aN A (by omega);have N:=x4.trans A;obtain⟨l0,l1,_,_⟩:=Z.two;obtain⟨t0,t1,z6,z5⟩:=G.two
  rcases (show j=0\/j=1 by omega) with rfl|rfl
  ·have F:=G.set 0 (.int .i64 (-1));have s:=J.apart (p:=⟨w1.heap.size,0,none⟩) (by simp;omega) (.int .i64 (-1));have D:=I.apart (q:=⟨w1.heap.size,0,none⟩) (by simp;omega) (by simp;omega) (.int .i64 (-1));have M:=N.aC (p:=⟨w1.heap.size,0,none⟩) (by simp;omega) (.int .i64 (-1))
   go_upto_region 7 with fail
   generalize (O.setCell ⟨w1.heap.size,0,none⟩ (.int .i64 (-1)))=w6 at*;obtain⟨u0,u1,_,_⟩:=F.two;obtain⟨q0,q1,f0,f1⟩:=s.two;go_wp2_with fail;refine fD (by simp[results,jU,go_sem,kM s,kK s];try rfl) rfl ?_;exact⟨_,_,rfl,by omega,by omega,by omega,by omega,⟨_,by omega,by omega,(D.apart (by simp;omega) (by simp;omega) _).apart (by simp;omega) (by simp;omega) _⟩,(M.aC (by simp) _).aC (by simp) _⟩
  ·have F:=G.set 0 (.int .i64 (8));have s:=J.apart (p:=⟨w1.heap.size,0,none⟩) (by simp;omega) (.int .i64 (8));have D:=I.apart (q:=⟨w1.heap.size,0,none⟩) (by simp;omega) (by simp;omega) (.int .i64 (8));have M:=N.aC (p:=⟨w1.heap.size,0,none⟩) (by simp;omega) (.int .i64 (8))
   go_upto_region 7 with fail
   generalize (O.setCell ⟨w1.heap.size,0,none⟩ (.int .i64 (8)))=w6 at*;obtain⟨u0,u1,_,_⟩:=F.two;obtain⟨q0,q1,f0,f1⟩:=s.two;go_wp2_with fail;refine fD (by simp[results,jU,go_sem,kM s,kK s];try rfl) rfl ?_;exact⟨_,_,rfl,by omega,by omega,by omega,by omega,⟨_,by omega,by omega,(D.apart (by simp;omega) (by simp;omega) _).apart (by simp;omega) (by simp;omega) _⟩,(M.aC (by simp) _).aC (by simp) _⟩
 ·have v7:(k==0)=false:=by simpa using hk
  by_cases U:k=1
  ·subst U;go_wp2_with fail;have S:=T.aX (aG (nU _ _) (.cells #[.int .i64 (-1),.int .i64 8] 3));have h9:Bk (w3.alloc (.cells #[.int .i64 (-1),.int .i64 8] 3)) w3.heap.size #[.int .i64 (-1),.int .i64 8] 3:=Bk.new _ _ rfl;have Y:=L.alloc (.cells #[.int .i64 (-1),.int .i64 8] 3);have V:=W.alloc (.cells #[.int .i64 (-1),.int .i64 8] 3);have x4:=x3.alloc (.cells #[.int .i64 (-1),.int .i64 8] 3);have Q:=H.size;simp only[BK]at Q;refine (pA S (by omega) (by omega) _ (by omega) (by omega)).mono ?_;rintro e O ⟨j,rfl,z4,z3,I,A⟩;have J:=Y.aN A (by omega);have G:=V.aN A (by omega);have Z:=h9.aN A (by omega);have N:=x4.trans A;obtain⟨l0,l1,_,_⟩:=Z.two;obtain⟨t0,t1,z6,z5⟩:=G.two
   rcases (show j=0\/j=1 by omega) with rfl|rfl
   ·have F:=G.set 1 (.int .i64 (-1));have s:=J.apart (p:=⟨w1.heap.size,1,none⟩) (by simp;omega) (.int .i64 (-1));have D:=I.apart (q:=⟨w1.heap.size,1,none⟩) (by simp;omega) (by simp;omega) (.int .i64 (-1));have M:=N.aC (p:=⟨w1.heap.size,1,none⟩) (by simp;omega) (.int .i64 (-1))
    go_upto_region 7 with fail
    generalize (O.setCell ⟨w1.heap.size,1,none⟩ (.int .i64 (-1)))=w6 at*;obtain⟨u0,u1,_,_⟩:=F.two;obtain⟨q0,q1,f0,f1⟩:=s.two;go_wp2_with fail;refine fD (by simp[results,jU,go_sem,kM s,kK s];try rfl) rfl ?_;exact⟨_,_,rfl,by omega,by omega,by omega,by omega,⟨_,by omega,by omega,(D.apart (by simp;omega) (by simp;omega) _).apart (by simp;omega) (by simp;omega) _⟩,(M.aC (by simp) _).aC (by simp) _⟩
   ·have F:=G.set 1 (.int .i64 (8));have s:=J.apart (p:=⟨w1.heap.size,1,none⟩) (by simp;omega) (.int .i64 (8));have D:=I.apart (q:=⟨w1.heap.size,1,none⟩) (by simp;omega) (by simp;omega) (.int .i64 (8));have M:=N.aC (p:=⟨w1.heap.size,1,none⟩) (by simp;omega) (.int .i64 (8))
    go_upto_region 7 with fail
    generalize (O.setCell ⟨w1.heap.size,1,none⟩ (.int .i64 (8)))=w6 at*;obtain⟨u0,u1,_,_⟩:=F.two;obtain⟨q0,q1,f0,f1⟩:=s.two;go_wp2_with fail;refine fD (by simp[results,jU,go_sem,kM s,kK s];try rfl) rfl ?_;exact⟨_,_,rfl,by omega,by omega,by omega,by omega,⟨_,by omega,by omega,(D.apart (by simp;omega) (by simp;omega) _).apart (by simp;omega) (by simp;omega) _⟩,(M.aC (by simp) _).aC (by simp) _⟩
  ·have v1:(k==1)=false:=by simpa using U
   obtain⟨q0,q1,f0,f1⟩:=L.two;obtain⟨t0,t1,_,_⟩:=W.two;go_wp2_with fail;refine fD (by simp[results,jU,go_sem,kM L,kK L];try rfl) rfl ?_;exact⟨a,b,rfl,by omega,by omega,by omega,by omega,⟨_,by omega,by omega,(T.apart (by simp;omega) (by simp;omega) _).apart (by simp;omega) (by simp;omega) _⟩,(x3.aC (by simp) _).aC (by simp) _⟩
end Go.Proofs.YtbdpcngcbnoioaaGreatDoor
