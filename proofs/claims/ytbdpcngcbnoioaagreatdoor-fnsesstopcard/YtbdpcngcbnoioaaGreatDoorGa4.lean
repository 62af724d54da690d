import Derived.Test.YtbdpcngcbnoioaaGreatDoorGa1
set_option maxHeartbeats 4000000
namespace Go.Proofs.YtbdpcngcbnoioaaGreatDoor
open Go.RowKit
open Go renaming bodyPost_ret->fM,World->fQ,IntKind->gD,Value->gM,Calls->gQ,Addr->gX
open Go.Proofs.Tryz renaming results64->iM,prog->iP,ntmps60->jB,func60->jO,results61->mO,ntmps58->nA,func58->nB
open Go.RowKit.Below renaming refl->nT,heap_setCell->nX
open _root_.Int renaming emod_lt_of_pos->oU,emod_nonneg->oW,eq_ofNat_of_zero_le->pU
open _root_.BitVec renaming ofInt->qV,ofInt_natCast->sD,toNat_ofNat->tJ
open _root_.Nat renaming le_refl->tK,lt_of_lt_of_le->tL,mod_eq_of_lt->tM,le_trans->tN,mod_lt->xU
open Go.World renaming size_alloc->xV,setCell->AP
open Go.RowKit renaming Below->AW
variable {B g n:Nat}{a w w1:fQ}{p:Int}{v:gM}
structure Bx (g:Nat)(w w':fQ):Prop where
 os:w'.os=w.os
 tape:w'.tape=w.tape
 output:w'.output=w.output
 size:w.heap.size<=w'.heap.size
 block:∀k,k<w.heap.size->k≠g->w'.heap[k]?=w.heap[k]?
theorem Bx.refl (g:Nat)(w:fQ):Bx g w w:=⟨rfl,rfl,rfl,tK _,fun _ _ _=>rfl⟩
theorem Bx.trans {b c:fQ}(h:Bx g a b)(k:Bx g b c):Bx g a c:=
 ⟨k.os.trans h.os,k.tape.trans h.tape,k.output.trans h.output,tN h.size k.size,fun i hi hg=>(k.block i (tL hi h.size) hg).trans (h.block i hi hg)⟩
theorem Bx.alloc (h:Bx g a w)(o:Obj):Bx g a (w.alloc o):=
 h.trans ⟨rfl,rfl,rfl,by simp,fun _ s _=>AW.heap_alloc _ _ _ s⟩
theorem Bx.drew (h:Bx g a w):Bx g a w.drew:=⟨h.os,h.tape,h.output,h.size,h.block⟩
theorem Bx.drewN (h:Bx g a w)(n:Nat):Bx g a (w.drewN n):=⟨h.os,h.tape,h.output,h.size,h.block⟩
theorem Bx.bj (h:Bx g a w){p:gX}(hp:p.block=g)(u:gM):Bx g a (w.setCell p u):=
 h.trans ⟨rfl,rfl,rfl,by simp[AP],fun k _ hg=>nX _ _ _ _ (by omega)⟩
theorem Bx.aA (h:Bx g a w){p:gX}(hp:a.heap.size<=p.block)(u:gM):Bx g a (w.setCell p u):=
 ⟨h.os,h.tape,h.output,by simpa[AP]using h.size,fun k s hg=>by rw[nX _ _ _ _ (by omega)];exact h.block k s hg⟩
theorem Bx.aD {w':fQ}(h:AW w.heap.size w w'):Bx g w w':=⟨h.os,h.tape,h.output,h.size,fun k s _=>h.block k s⟩
theorem Bx.below {w0 w':fQ}(h:Bx g w w')(h0:AW B w0 w)(A:B<=w.heap.size)(hg:B<=g):AW B w0 w':=
 h0.trans ⟨h.os,h.tape,h.output,h.size,fun k s=>h.block k (by omega) (by omega)⟩
theorem Bk.aN {k:Nat}{c:Array gM}{t:TypeId}(h:Bk w k c t)(A:Bx g w w1)(s:k≠g):Bk w1 k c t:=by
 unfold Bk;rw[A.block k h.lt s];exact h
def Src (w:fQ)(v:gM)(n:Nat):Prop:=
 ∃a cap,v=.slice a n cap/\n<=cap/\cap<=maxLen/\∀i:Nat,i<n->∃(b off:Nat)(z:Int),a=some ⟨b,off,none⟩/\b<w.heap.size/\w.cell? ⟨b,off+i,none⟩=some (.int .u8 z)/\0<=z/\z<=255
theorem Src.nil (w:fQ):Src w (.slice none 0 0) 0:=⟨none,0,rfl,tK _,by unfold maxLen;omega,fun i h=>by omega⟩
theorem RI {n:Int}(h:(Lit.int .u8 n).wf=true):0<=n/\n<=255:=by
 simp[Lit.wf,gD.min,gD.max,gD.signed,gD.bits]at h;omega
theorem Src.dr {x:gX}{len A:Nat}{s:List Int}(hl:len<=A)(hm:A<=maxLen)(Q:s.length=A)(D:∀i,i<s.length->w.cell? (x.add i)=some (.int .u8 (s.getD i 0)))(L:∀n∈s,(Lit.int .u8 n).wf=true):
  Src w (.slice (some x) len A) len:=by
 refine⟨some x,A,rfl,hl,hm,fun i hi=>?_⟩;obtain⟨b,off,I⟩:=x;have G:I=none:=by
  have h0:=fQ.cell?_spot (D 0 (by omega))
  simpa[gX.add]using h0
 subst G;have H:w.cell? ⟨b,off+i,none⟩=some (.int .u8 (s.getD i 0)):=by
  have O:=D i (by omega)
  by_cases h0:i=0
  ·subst h0;simpa[gX.add]using O
  ·simpa[gX.add,h0]using O
 have J:s.getD i 0∈s:=by
  have M:i<s.length:=by omega
  simp[List.getD,List.getElem?_eq_getElem M]
 obtain⟨h0,h1⟩:=RI (L _ J);exact⟨b,off,s.getD i 0,rfl,lC H,H,h0,h1⟩
theorem Src.keep (h:Src w v n)(A:AW w.heap.size w w1):Src w1 v n:=by
 obtain⟨a,D,rfl,h1,h2,h3⟩:=h;refine⟨a,D,rfl,h1,h2,fun i hi=>?_⟩;obtain⟨b,off,z,rfl,s,G,h4,h5⟩:=h3 i hi;exact⟨b,off,z,rfl,tL s A.size,cB A G,h4,h5⟩
structure Rd (B:Nat)(w:fQ)(g:Nat)(v:gM)(n:Nat)(p:Int):Prop where
 blk:Bk w g #[v,.int .i64 p] 144
 bytes:∃a cap,v=.slice a n cap/\n<=cap/\cap<=maxLen/\∀i:Nat,i<n->∃(b off:Nat)(z:Int),a=some ⟨b,off,none⟩/\b<B/\w.cell? ⟨b,off+i,none⟩=some (.int .u8 z)/\0<=z/\z<=255
 few:n<=2000
 here:B<=g
 size:B<=w.heap.size
theorem Rd.aN {q:Int}(h:Rd B w g v n p)(A:Bx g w w1)(hq:Bk w1 g #[v,.int .i64 q] 144):Rd B w1 g v n q:=by
 refine⟨hq,?_,h.few,h.here,tN h.size A.size⟩;obtain⟨a,D,rfl,h1,h2,h3⟩:=h.bytes;refine⟨a,D,rfl,h1,h2,fun i hi=>?_⟩;obtain⟨b,off,z,rfl,s,G,h4,h5⟩:=h3 i hi;have hs:=h.size;have H:=h.here;refine⟨b,off,z,rfl,s,?_,h4,h5⟩;rw[fQ.cell?_of_block (w:=w) (A.block b (by omega) (by omega))];exact G
theorem Rd.aa (h:Rd B w g v n p)(s:AW w.heap.size w w1):Rd B w1 g v n p:=
 h.aN (Bx.aD s) (h.blk.keep s)
theorem I0 {k:gD}{a b:Int}(h:a=b):Ending.returned (.int k a)=.returned (.int k b):=by rw[h]
theorem AS (a b:Nat)(ha:a<4611686018427387904)(s:b<4611686018427387904):
  bits .xor .i64 (a:Int) (b:Int)=((a ^^^ b:Nat):Int):=by
 have hx:a ^^^ b<2^62:=Nat.xor_lt_two_pow (by omega) (by omega);have h1:(qV 64 (a:Int)).toNat=a:=by
  rw[sD,tJ];exact tM (by omega)
 have h2:(qV 64 (b:Int)).toNat=b:=by
  rw[sD,tJ];exact tM (by omega)
 show gD.i64.wrap ((qV 64 (a:Int) ^^^ qV 64 (b:Int)).toNat:Int)=_
 rw[BitVec.toNat_xor,h1,h2,gD.wrap_i64];omega
theorem Kp (x m:Int)(h0:0<=x)(h1:x<4611686018427387904)(hm:1<=m):0<=(bits .xor .i64 x (x / 64)).tmod m/\(bits .xor .i64 x (x / 64)).tmod m<m:=by
 obtain⟨X,rfl⟩:=pU h0;have e:((X:Int) / 64)=((X / 64:Nat):Int):=by omega
 rw[e,AS _ _ (by omega) (by omega)];rw[Int.tmod_eq_emod_of_nonneg (by omega)];exact⟨oW _ (by omega),oU _ (by omega)⟩
theorem yU (h:Rd B w g v n p):
  Rd B (w.setCell ⟨g,1,none⟩ (.int .i64 (p+1))) g v n (p+1)/\Bx g w (w.setCell ⟨g,1,none⟩ (.int .i64 (p+1))):=
 have hx:Bx g w (w.setCell ⟨g,1,none⟩ (.int .i64 (p+1))):=(Bx.refl g w).bj rfl _
 ⟨h.aN hx (h.blk.set 1 _),hx⟩
theorem L5 (h:Rd B w g v 0 p)(hp:0<=p)(s:p<=1000000)(m:Int)(hm:1<=m):
  gQ iP 60 #[.pointer (some ⟨g,0,none⟩),.int .i64 m] w fun e w'=>∃k:Int,e=.returned (.int .i64 k)/\0<=k/\k<m/\Rd B w' g v 0 (p+1)/\Bx g w w':=by
 obtain⟨hr,hx⟩:=yU h;obtain⟨I,c1,G,D⟩:=h.blk.two;obtain⟨H,d1,_,_⟩:=hr.blk.two;obtain⟨a,A,rfl,h1,h2,_⟩:=h.bytes;go_enter jO,jB
 go_wp2
 go_ret;exact⟨0,rfl,by omega,by omega,hr,hx⟩
theorem PF {p:Nat}(h:Rd B w g v n p)(hp:p<n)(m:Int)(hm:1<=m)(D:m<=1000):
  gQ iP 60 #[.pointer (some ⟨g,0,none⟩),.int .i64 m] w fun e w'=>∃k:Int,e=.returned (.int .i64 k)/\0<=k/\k<m/\Rd B w' g v n (p+1)/\Bx g w w':=by
 obtain⟨hr,hx⟩:=yU h;obtain⟨O,c1,L,J⟩:=h.blk.two;obtain⟨M,d1,_,_⟩:=hr.blk.two;have hn:=h.few;obtain⟨a,G,rfl,h1,h2,h3⟩:=hr.bytes;obtain⟨b,off,z,rfl,I,H,A,s⟩:=h3 p hp;unfold maxLen at h2;clear h3;have e0:((n:Int)==0)=false:=by simp;omega
 go_enter jO,jB
 go_wp2
 go_ret;exact⟨z%m,rfl,oW _ (by omega),oU _ (by omega),hr,hx⟩
theorem N6 {p:Nat}(h:Rd B w g v n p)(s:0<n)(hp:n<=p)(R:p<=1000000)(m:Int)(hm:1<=m)(S:m<=1000):
  gQ iP 60 #[.pointer (some ⟨g,0,none⟩),.int .i64 m] w fun e w'=>∃k:Int,e=.returned (.int .i64 k)/\0<=k/\k<m/\Rd B w' g v n (p+1)/\Bx g w w':=by
 obtain⟨hr,hx⟩:=yU h;obtain⟨c0,c1,f0,f1⟩:=h.blk.two;obtain⟨d0,d1,_,_⟩:=hr.blk.two;have hn:=h.few;obtain⟨a,V,rfl,h1,h2,h3⟩:=hr.bytes;have J:p%n<n:=xU _ s;have I:(p*7+3)%n<n:=xU _ s;obtain⟨b,off,z,rfl,hb,hc,M,L⟩:=h3 (p%n) J;obtain⟨b',H,y,A,U,T,Q,O⟩:=h3 ((p*7+3)%n) I;simp at A;obtain⟨rfl,rfl⟩:=A;unfold maxLen at h2;clear h3;have e0:((n:Int)==0)=false:=by simp;omega
 have e1:decide ((p:Int)<(n:Int))=false:=by simp;omega
 have e2:decide (m<1)=false:=by simp;omega
 have j1:(0:Int)<=((p:Int)*7+3)%(n:Int):=oW _ (by omega);have Z:((p:Int)*7+3)%(n:Int)<(n:Int):=oU _ (by omega);have Y:(0:Int)<=(p:Int) / (n:Int):=Int.ediv_nonneg (by omega) (by omega);have W:(p:Int) / (n:Int)<=(p:Int):=Int.ediv_le_self _ (by omega);go_enter jO,jB
 go_wp2
 go_quiet (fail)
 go_wp2
 go_ret;obtain⟨G,D⟩:=Kp (z*131+y*1117+p*29+p / n*53) m (by omega) (by omega) hm;exact⟨_,rfl,G,D,hr.aa (dV (nT _ _) _),hx.drewN _⟩
theorem pA (h:Rd B w g v n p)(hp:0<=p)(A:p<=1000000)(m:Int)(hm:1<=m)(s:m<=1000):
  gQ iP 60 #[.pointer (some ⟨g,0,none⟩),.int .i64 m] w fun e w'=>∃k:Int,e=.returned (.int .i64 k)/\0<=k/\k<m/\Rd B w' g v n (p+1)/\Bx g w w':=by
 obtain⟨q,rfl⟩:=pU hp
 by_cases h0:n=0
 ·subst h0;exact L5 h hp A m hm
 ·by_cases h1:q<n
  ·exact PF h h1 m hm s
  ·exact N6 h (by omega) (by omega) (by omega) m hm s
theorem Rd.apart (h:Rd B w g v n p){q:gX}(hq:g≠q.block)(G:B<=q.block)(u:gM):Rd B (w.setCell q u) g v n p:=by
 refine⟨h.blk.apart hq u,?_,h.few,h.here,by simpa[AP]using h.size⟩;obtain⟨a,A,rfl,h1,h2,h3⟩:=h.bytes;refine⟨a,A,rfl,h1,h2,fun i hi=>?_⟩;obtain⟨b,off,z,rfl,s,D,h4,h5⟩:=h3 i hi;exact⟨b,off,z,rfl,s,lX D (by omega),h4,h5⟩
theorem qQ (h:Rd B w g v n p)(hp:0<=p)(x4:p<=900000):
  gQ iP 61 #[.pointer (some ⟨g,0,none⟩)] w fun e w'=>∃a b:Int,e=.returned (tv a b)/\0<=a/\a<=7/\0<=b/\b<=7/\(∃O:Int,p<=O/\O<=p+3/\Rd B w' g v n O)/\Bx g w w':=by
 have hg:=h.blk.lt;have hs:=h.size;have hh:=h.here;have h0:=h.aa (aH (nT _ _) (.cells #[.int .i64 0,.int .i64 0] 32));have br:Bk (w.alloc (.cells #[.int .i64 0,.int .i64 0] 32)) w.heap.size #[.int .i64 0,.int .i64 0] 32:=Bk.new _ _ rfl;have Q:Bx g w (w.alloc (.cells #[.int .i64 0,.int .i64 0] 32)):=(Bx.refl _ _).alloc _;go_enter Tryz.func61,Tryz.ntmps61;go_wp2_with fail;refine (pA h0 hp (by omega) _ (by omega) (by omega)).mono ?_;rintro e w1 ⟨k,rfl,x7,x6,L,G⟩;have M:=br.aN G (by omega)
 by_cases R:k=0
 ·subst R;go_wp2_with fail;refine (pA L (by omega) (by omega) _ (by omega) (by omega)).mono ?_;rintro e Y ⟨a,rfl,V,U,I,D⟩;have J:=M.aN D (by omega);go_wp2_with fail;refine (pA I (by omega) (by omega) _ (by omega) (by omega)).mono ?_;rintro e W ⟨b,rfl,T,S,H,A⟩;have s:=J.aN A (by omega);obtain⟨q0,Z,f0,f1⟩:=s.two;go_wp2_with fail;refine fM (by simp[results,mO,go_sem,lL s,lM s];try rfl) rfl ?_;exact⟨a,b,rfl,by omega,by omega,by omega,by omega,⟨_,by omega,by omega,(H.apart (by simp;omega) (by simp;omega) _).apart (by simp;omega) (by simp;omega) _⟩,((((Q.trans G).trans D).trans A).aA (by simp) _).aA (by simp) _⟩
 ·have x5:(k==0)=false:=by simpa using R
  go_wp2_with fail;refine (pA L (by omega) (by omega) _ (by omega) (by omega)).mono ?_;rintro e Y ⟨a,rfl,V,U,I,D⟩;have J:=M.aN D (by omega);go_wp2_with fail;refine (pA I (by omega) (by omega) _ (by omega) (by omega)).mono ?_;rintro e W ⟨b,rfl,T,S,H,A⟩;have s:=J.aN A (by omega);obtain⟨q0,Z,f0,f1⟩:=s.two;go_wp2_with fail;refine fM (by simp[results,mO,go_sem,lL s,lM s];try rfl) rfl ?_;exact⟨a,b,rfl,by omega,by omega,by omega,by omega,⟨_,by omega,by omega,(H.apart (by simp;omega) (by simp;omega) _).apart (by simp;omega) (by simp;omega) _⟩,((((Q.trans G).trans D).trans A).aA (by simp) _).aA (by simp) _⟩
theorem Rd.new {a:Option gX}{len s k:Nat}(G:k<=len)(hf:k<=2000)(h1:len<=s)(h2:s<=maxLen)
  (h3:∀i:Nat,i<len->∃(b off:Nat)(z:Int),a=some ⟨b,off,none⟩/\b<w.heap.size/\w.cell? ⟨b,off+i,none⟩=some (.int .u8 z)/\0<=z/\z<=255):
  Rd w.heap.size (w.alloc (.cells #[.slice a k s,.int .i64 0] 144)) w.heap.size (.slice a k s) k 0:=by
 refine⟨Bk.new _ _ rfl,⟨a,s,rfl,by omega,h2,fun i hi=>?_⟩,hf,tK _,by simp⟩;obtain⟨b,off,z,rfl,D,A,h4,h5⟩:=h3 i (by omega);exact⟨b,off,z,rfl,D,vZ A,h4,h5⟩
theorem Ix (a:Option gX)(len s:Nat)(w:fQ)(h:Src w (.slice a len s) len):
  gQ iP 58 #[.slice a len s] w fun e w'=>e=.returned (.pointer (some ⟨w.heap.size,0,none⟩))/\(∃v n,Rd w.heap.size w' w.heap.size v n 0)/\AW w.heap.size w w':=by
 obtain⟨a',D,e,h1,h2,h3⟩:=h;simp at e;obtain⟨rfl,rfl⟩:=e;have A:=h2;unfold maxLen at A
 by_cases hl:(2000:Int)<(len:Int)
 ·have R:=Rd.new (k:=2000) (by omega) (by omega) h1 h2 h3;clear h3;go_enter nB,nA
  go_wp2
  go_ret;exact⟨rfl,⟨_,_,R⟩,aH (nT _ _) _⟩
 ·have R:=Rd.new (k:=len) (by omega) (by omega) h1 h2 h3;clear h3;go_enter nB,nA
  go_wp2
  go_ret;exact⟨rfl,⟨_,_,R⟩,aH (nT _ _) _⟩
theorem wT (h:Rd B w g v n p)(hp:0<=p)(w8:p<=900000):
  gQ iP 64 #[.pointer (some ⟨g,0,none⟩)] w fun e w'=>∃a b:Int,e=.returned (tv a b) /\ -1<=a/\a<=8 /\ -1<=b/\b<=8/\(∃p':Int,p<=p'/\p'<=p+5/\Rd B w' g v n p')/\Bx g w w':=by
 have hg:=h.blk.lt;have hs:=h.size;have hh:=h.here;have h0:=h.aa (aH (nT _ _) (.cells #[.int .i64 0,.int .i64 0] 32));have br:Bk (w.alloc (.cells #[.int .i64 0,.int .i64 0] 32)) w.heap.size #[.int .i64 0,.int .i64 0] 32:=Bk.new _ _ rfl;have x0:Bx g w (w.alloc (.cells #[.int .i64 0,.int .i64 0] 32)):=(Bx.refl _ _).alloc _;go_enter Tryz.func64,Tryz.ntmps64;go_wp2_with fail;refine (qQ h0 hp (by omega)).mono ?_;rintro e w1 ⟨a,b,rfl,a5,a4,a3,a2,⟨p1,w7,w4,z5⟩,T⟩;have y3:=br.aN T (by omega);have w2:=y3.lt;have z3:=T.size;simp only[xV]at z3;go_wp2_with fail;have z4:=z5.aa (aH (nT _ _) (.cells #[.int .i64 a,.int .i64 b] 32));have v2:Bk (w1.alloc (.cells #[.int .i64 a,.int .i64 b] 32)) w1.heap.size #[.int .i64 a,.int .i64 b] 32:=Bk.new _ _ rfl;have v3:=y3.alloc (.cells #[.int .i64 a,.int .i64 b] 32);have x2:Bx g w (w1.alloc (.cells #[.int .i64 a,.int .i64 b] 32)):=(x0.trans T).alloc _;refine (pA z4 (by omega) (by omega) _ (by omega) (by omega)).mono ?_;rintro e w3 ⟨k,rfl,a1,a0,V,I⟩;have M:=v3.aN I (by omega);have Z:=v2.aN I (by omega);have x3:=x2.trans I
 by_cases hk:k=0
 ·subst hk;go_wp2_with fail;have U:=V.aa (aH (nT _ _) (.cells #[.int .i64 (-1),.int .i64 8] 3));have x7:Bk (w3.alloc (.cells #[.int .i64 (-1),.int .i64 8] 3)) w3.heap.size #[.int .i64 (-1),.int .i64 8] 3:=Bk.new _ _ rfl;have h9:=M.alloc (.cells #[.int .i64 (-1),.int .i64 8] 3);have Y:=Z.alloc (.cells #[.int .i64 (-1),.int .i64 8] 3);have x4:=x3.alloc (.cells #[.int .i64 (-1),.int .i64 8] 3);have S:=I.size;simp only[xV]at S;refine (pA U (by omega) (by omega) _ (by omega) (by omega)).mono ?_;rintro e R ⟨j,rfl,z9,z8,J,A⟩;have L:=h9.aN A (by omega);have H:=Y.aN A (by omega);have x1:=x7.aN A (by omega);have Q:=x4.trans A;obtain⟨l0,l1,_,_⟩:=x1.two;obtain⟨t0,t1,v1,v0⟩:=H.two
  rcases (show j=0\/j=1 by omega) with rfl|rfl
  ·have G:=H.set 0 (.int .i64 (-1));have s:=L.apart (p:=⟨w1.heap.size,0,none⟩) (by simp;omega) (.int .i64 (-1));have D:=J.apart (q:=⟨w1.heap.size,0,none⟩) (by simp;omega) (by simp;omega) (.int .i64 (-1));have O:=Q.aA (p:=⟨w1.heap.size,0,none⟩) (by simp;omega) (.int .i64 (-1))
   go_upto_region 7 with fail
   generalize (R.setCell ⟨w1.heap.size,0,none⟩ (.int .i64 (-1)))=w6 at*;obtain⟨u0,u1,_,_⟩:=G.two;obtain⟨q0,q1,f0,f1⟩:=s.two;go_wp2_with fail;refine fM (by simp[results,iM,go_sem,lL s,lM s];try rfl) rfl ?_;exact⟨_,_,rfl,by omega,by omega,by omega,by omega,⟨_,by omega,by omega,(D.apart (by simp;omega) (by simp;omega) _).apart (by simp;omega) (by simp;omega) _⟩,(O.aA (by simp) _).aA (by simp) _⟩
  ·have G:=H.set 0 (.int .i64 (8));have s:=L.apart (p:=⟨w1.heap.size,0,none⟩) (by simp;omega) (.int .i64 (8));have D:=J.apart (q:=⟨w1.heap.size,0,none⟩) (by simp;omega) (by simp;omega) (.int .i64 (8));have O:=Q.aA (p:=⟨w1.heap.size,0,none⟩) (by simp;omega) (.int .i64 (8))
   go_upto_region 7 with fail
   generalize (R.setCell ⟨w1.heap.size,0,none⟩ (.int .i64 (8)))=w6 at*;obtain⟨u0,u1,_,_⟩:=G.two;obtain⟨q0,q1,f0,f1⟩:=s.two;go_wp2_with fail;refine fM (by simp[results,iM,go_sem,lL s,lM s];try rfl) rfl ?_;exact⟨_,_,rfl,by omega,by omega,by omega,by omega,⟨_,by omega,by omega,(D.apart (by simp;omega) (by simp;omega) _).apart (by simp;omega) (by simp;omega) _⟩,(O.aA (by simp) _).aA (by simp) _⟩
 ·have w9:(k==0)=false:=by simpa using hk
  by_cases W:k=1
  ·subst W;go_wp2_with fail;have U:=V.aa (aH (nT _ _) (.cells #[.int .i64 (-1),.int .i64 8] 3));have x7:Bk (w3.alloc (.cells #[.int .i64 (-1),.int .i64 8] 3)) w3.heap.size #[.int .i64 (-1),.int .i64 8] 3:=Bk.new _ _ rfl;have h9:=M.alloc (.cells #[.int .i64 (-1),.int .i64 8] 3);have Y:=Z.alloc (.cells #[.int .i64 (-1),.int .i64 8] 3);have x4:=x3.alloc (.cells #[.int .i64 (-1),.int .i64 8] 3);have S:=I.size;simp only[xV]at S;refine (pA U (by omega) (by omega) _ (by omega) (by omega)).mono ?_;rintro e R ⟨j,rfl,z9,z8,J,A⟩;have L:=h9.aN A (by omega);have H:=Y.aN A (by omega);have x1:=x7.aN A (by omega);have Q:=x4.trans A;obtain⟨l0,l1,_,_⟩:=x1.two;obtain⟨t0,t1,v1,v0⟩:=H.two
   rcases (show j=0\/j=1 by omega) with rfl|rfl
   ·have G:=H.set 1 (.int .i64 (-1));have s:=L.apart (p:=⟨w1.heap.size,1,none⟩) (by simp;omega) (.int .i64 (-1));have D:=J.apart (q:=⟨w1.heap.size,1,none⟩) (by simp;omega) (by simp;omega) (.int .i64 (-1));have O:=Q.aA (p:=⟨w1.heap.size,1,none⟩) (by simp;omega) (.int .i64 (-1))
    go_upto_region 7 with fail
    generalize (R.setCell ⟨w1.heap.size,1,none⟩ (.int .i64 (-1)))=w6 at*;obtain⟨u0,u1,_,_⟩:=G.two;obtain⟨q0,q1,f0,f1⟩:=s.two;go_wp2_with fail;refine fM (by simp[results,iM,go_sem,lL s,lM s];try rfl) rfl ?_;exact⟨_,_,rfl,by omega,by omega,by omega,by omega,⟨_,by omega,by omega,(D.apart (by simp;omega) (by simp;omega) _).apart (by simp;omega) (by simp;omega) _⟩,(O.aA (by simp) _).aA (by simp) _⟩
   ·have G:=H.set 1 (.int .i64 (8));have s:=L.apart (p:=⟨w1.heap.size,1,none⟩) (by simp;omega) (.int .i64 (8));have D:=J.apart (q:=⟨w1.heap.size,1,none⟩) (by simp;omega) (by simp;omega) (.int .i64 (8));have O:=Q.aA (p:=⟨w1.heap.size,1,none⟩) (by simp;omega) (.int .i64 (8))
    go_upto_region 7 with fail
    generalize (R.setCell ⟨w1.heap.size,1,none⟩ (.int .i64 (8)))=w6 at*;obtain⟨u0,u1,_,_⟩:=G.two;obtain⟨q0,q1,f0,f1⟩:=s.two;go_wp2_with fail;refine fM (by simp[results,iM,go_sem,lL s,lM s];try rfl) rfl ?_;exact⟨_,_,rfl,by omega,by omega,by omega,by omega,⟨_,by omega,by omega,(D.apart (by simp;omega) (by simp;omega) _).apart (by simp;omega) (by simp;omega) _⟩,(O.aA (by simp) _).aA (by simp) _⟩
  ·have v8:(k==1)=false:=by simpa using W
   obtain⟨q0,q1,f0,f1⟩:=M.two;obtain⟨t0,t1,_,_⟩:=Z.two;go_wp2_with fail;refine fM (by simp[results,iM,go_sem,lL M,lM M];try rfl) rfl ?_;exact⟨a,b,rfl,by omega,by omega,by omega,by omega,⟨_,by omega,by omega,(V.apart (by simp;omega) (by simp;omega) _).apart (by simp;omega) (by simp;omega) _⟩,(x3.aA (by simp) _).aA (by simp) _⟩
end Go.Proofs.YtbdpcngcbnoioaaGreatDoor
