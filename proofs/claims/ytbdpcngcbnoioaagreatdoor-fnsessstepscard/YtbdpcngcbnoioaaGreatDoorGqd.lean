import Derived.Test.YtbdpcngcbnoioaaGreatDoorQa8
import Derived.Test.YtbdpcngcbnoioaaGreatDoorGqc
set_option maxRecDepth 100000
set_option maxHeartbeats 16000000
namespace Go.Proofs.YtbdpcngcbnoioaaGreatDoor
open Go.RowKit Go.Shelf
open Go.RowKit.Below renaming heap_setCell->fD,refl->fH
open Go.RowKit renaming Below->fV
open Go renaming World->gY,Calls->gZ,Value->iC
open Go.Proofs.Tryz renaming prog->jU
open _root_.Nat renaming zero_le->kR,le_refl->kX
variable {B:Nat}{s:iC}{w:gY}
def fF (w:gY)(p:Nat->Prop)(sp si sf sd:iC)(s:SS):Prop:=∀V:gY,(∀z,p z->z<w.heap.size->V.heap[z]?=w.heap[z]?)->bY V sp si sf sd s
section
variable {w w1:gY}{p q:Nat->Prop}{sp si sf sd:iC}{s:SS}
theorem fF.ses (h:fF w p sp si sf sd s):bY w sp si sf sd s:=h w fun _ _ _=>rfl
theorem fF.move (h:fF w p sp si sf sd s)(H:∀z,p z->z<w.heap.size->q z/\w1.heap[z]?=w.heap[z]?)(hs:w.heap.size<=w1.heap.size):fF w1 q sp si sf sd s:=fun V g=>
 h V fun z a hl=>(g z (H z a hl).1 (Nat.lt_of_lt_of_le hl hs)).trans (H z a hl).2
theorem fF.keep (h:fF w p sp si sf sd s)(a:fV w.heap.size w w1):fF w1 p sp si sf sd s:=h.move (fun z g hl=>⟨g,a.block z hl⟩) a.size
theorem fF.wk (h:fF w p sp si sf sd s)(H:∀z,p z->z<w.heap.size->q z):fF w q sp si sf sd s:=h.move (fun z a hl=>⟨H z a hl,rfl⟩) (kX _)
theorem fF.aN {g:Nat}(h:fF w p sp si sf sd s)(hx:Bx g w w1)(hg:∀z,p z->z≠g):fF w1 p sp si sf sd s:=h.move (fun z a hl=>⟨a,hx.block z hl (hg z a)⟩) hx.size
end
theorem lR.db {V:gY}{sp si sf sd:iC}{s:SS}(h:lR w B sp si sf sd s)(a:∀z,B<=z->z<w.heap.size->V.heap[z]?=w.heap[z]?):lR V B sp si sf sd s:=by
 obtain⟨vs,h1,h2⟩:=h.ly;exact⟨h.kd.move fun g hg hl=>⟨hg,a g hg.1 hl⟩,⟨vs,dF h1 fun z e=>a z (oB h1 z e) (oT h1 z e),h2.1,fun i u l D A=>dF (h2.2.1 i u l D A) fun z e=>a z (oB (h2.2.1 i u l D A) z e) (oT (h2.2.1 i u l D A) z e),h2.2.2⟩,
  dF h.ts fun z e=>a z (oB h.ts z e) (oT h.ts z e),dF h.rs fun z e=>a z (oB h.rs z e) (oT h.rs z e)⟩
attribute [local go_sem ↓] Go.wp_at_zero Go.wp_at_succ
def oZ (w:gY)(e:Ending)(w':gY):Prop:=e=.returned (.bool true)/\fV w.heap.size w w'
theorem tN {t:PT}{B':Nat}{s':iC}(hs:cZ B w t s)(hs':cZ B' w t s')
  (M:∀i,i<t.len->∀(W:gY)(u u':iC),cZ B W (t.ab i) u->cZ B' W (t.ab i) u'->gZ jU 40 #[pl (t.ab i).k (t.ab i).n u,pl (t.ab i).k (t.ab i).n u'] W (oZ W)):
  gZ jU 40 #[pl t.k t.n s,pl t.k t.n s'] w (oZ w):=by
 have HR:=(show Hid _ from M);obtain⟨a,c,rfl⟩:=hs.sl;obtain⟨a',D,rfl⟩:=hs'.sl;have b0:Bk ((w.alloc (.cells #[.int .i64 t.k,.int .i64 t.n,.slice a t.len c] 25)).alloc (.cells #[.int .i64 t.k,.int .i64 t.n,.slice a' t.len D] 25)) w.heap.size #[.int .i64 t.k,.int .i64 t.n,.slice a t.len c] 25:=(Bk.new _ _ rfl).alloc _;have b1:Bk ((w.alloc (.cells #[.int .i64 t.k,.int .i64 t.n,.slice a t.len c] 25)).alloc (.cells #[.int .i64 t.k,.int .i64 t.n,.slice a' t.len D] 25)) (w.heap.size+1) #[.int .i64 t.k,.int .i64 t.n,.slice a' t.len D] 25:=Bk.new _ _ (by simp);have Q:fV w.heap.size w ((w.alloc (.cells #[.int .i64 t.k,.int .i64 t.n,.slice a t.len c] 25)).alloc (.cells #[.int .i64 t.k,.int .i64 t.n,.slice a' t.len D] 25)):=aG (aG (fH _ _) _) _;have HS:Hid (cZ B ((w.alloc (.cells #[.int .i64 t.k,.int .i64 t.n,.slice a t.len c] 25)).alloc (.cells #[.int .i64 t.k,.int .i64 t.n,.slice a' t.len D] 25)) t (.slice a t.len c)):=hs.keep Q;have y9:Hid (cZ B' ((w.alloc (.cells #[.int .i64 t.k,.int .i64 t.n,.slice a t.len c] 25)).alloc (.cells #[.int .i64 t.k,.int .i64 t.n,.slice a' t.len D] 25)) t (.slice a' t.len D)):=hs'.keep Q;obtain⟨x0,x1,x2⟩:=b0.aK;obtain⟨y0,y1,y2⟩:=b1.aK;have u0:=PT.bp t;clear hs hs' M;go_enter Tryz.func40,Tryz.ntmps40;go_wp2_with fail;generalize ((w.alloc (.cells #[.int .i64 t.k,.int .i64 t.n,.slice a t.len c] 25)).alloc (.cells #[.int .i64 t.k,.int .i64 t.n,.slice a' t.len D] 25))=J at*;clear x0 x1 x2 y0 y1 y2
 go_loopw [5] (fun i wr=>∃k:Nat,i=.int .i64 k/\k<=t.len/\fV J.heap.size J wr) (fun i _=>t.len-(intOf i).toNat)
 case atStart=>exact⟨0,rfl,kR _,fH _ _⟩
 case round=>
  obtain⟨k,rfl,u4,Z⟩:=hrel;obtain⟨x0,x1,x2⟩:=(b0.keep Z).aK
  by_cases N:k<t.len
  ·have ik:((k:Int)<(t.len:Int)):=by omega
   obtain⟨g,off,sx,rfl,u8,p0,p1,p2,O,e2,U,d2,rfl⟩:=HS.out.at N;obtain⟨G,A,z9,rfl,z5,q0,q1,q2,H,R,L,S,rfl⟩:=y9.out.at N;have HX:Hid (∀V,fV J.heap.size J V->V.cell? ⟨w.heap.size,2,none⟩=some (.slice (some ⟨g,off,none⟩) t.len c)/\V.cell? ⟨w.heap.size+1,2,none⟩=some (.slice (some ⟨G,A,none⟩) t.len D)/\V.cell? ⟨g,off+k*3,none⟩=some (.int .i64 (t.ab k).k)/\V.cell? ⟨g,off+k*3+1,none⟩=some (.int .i64 (t.ab k).n)/\V.cell? ⟨g,off+k*3+2,none⟩=some (.slice e2 U d2) /\
     V.cell? ⟨G,A+k*3,none⟩=some (.int .i64 (t.ab k).k)/\V.cell? ⟨G,A+k*3+1,none⟩=some (.int .i64 (t.ab k).n)/\V.cell? ⟨G,A+k*3+2,none⟩=some (.slice R L S)):=fun V F=>⟨(b0.keep F).aK.2.2,(b1.keep F).aK.2.2,cB F p0,cB F p1,cB F p2,cB F q0,cB F q1,cB F q2⟩
   have I:=Z.drew;have HC:Hid (gZ jU 40 #[pl (t.ab k).k (t.ab k).n (.slice e2 U d2),pl (t.ab k).k (t.ab k).n (.slice R L S)] wr.drew (oZ wr.drew)):=HR.out k N wr.drew _ _ (O.keep I) (H.keep I);clear p0 p1 p2 q0 q1 q2 O H;go_wp2_with fail
   go_region_held3 (fun V=>V.cell? ⟨w.heap.size,2,none⟩=some (.slice (some ⟨g,off,none⟩) t.len c)/\V.cell? ⟨w.heap.size+1,2,none⟩=some (.slice (some ⟨G,A,none⟩) t.len D)/\V.cell? ⟨g,off+k*3,none⟩=some (.int .i64 (t.ab k).k)/\V.cell? ⟨g,off+k*3+1,none⟩=some (.int .i64 (t.ab k).n)/\V.cell? ⟨g,off+k*3+2,none⟩=some (.slice e2 U d2) /\
     V.cell? ⟨G,A+k*3,none⟩=some (.int .i64 (t.ab k).k)/\V.cell? ⟨G,A+k*3+1,none⟩=some (.int .i64 (t.ab k).n)/\V.cell? ⟨G,A+k*3+2,none⟩=some (.slice R L S))
    (first|exact HX.out _ I|exact HX.out _ T)
    (first
     | (go_at_call 40;refine gZ.mono HC.out ?_;rintro e w7 ⟨rfl,Y⟩;have T:fV J.heap.size J w7:=aH I Y))
   all_goals
    go_wp2_with fail;go_roundw
    case rel=>exact⟨k+1,by go_num,by omega,T⟩
    case measure=>simp[intOf];omega
  ·obtain rfl:k=t.len:=by omega
   have ik:¬((t.len:Int)<(t.len:Int)):=by omega
   go_wp2_with fail;go_ret;exact⟨rfl,aH Q Z⟩
theorem pL:∀(t:PT){B B':Nat}{s s':iC}{w:gY},cZ B w t s->cZ B' w t s'->gZ jU 40 #[pl t.k t.n s,pl t.k t.n s'] w (oZ w)
 | .n0 _ _,_,_,_,_,_,hs,hs'=>tN hs hs' fun i hi=>by simp[PT.len]at hi
 | .n1 _ _ x,_,_,_,_,_,hs,hs'=>tN hs hs' fun i _ W u g h a=>pL x h a
 | .n2 _ _ x y,_,_,_,_,_,hs,hs'=>tN hs hs' fun i _ W u g h a=>by
  cases i with
  | zero=>exact pL x h a
  | succ i=>exact pL y h a
theorem Bg {K:List (List Rw)}{v v':iC}(h:eG w v K)(U:eG w v' K):
  gZ jU 85 #[v,v'] w (oZ w):=by
 obtain⟨a,c,rfl,-,hm,hn,D⟩:=h.open;obtain⟨a',c',rfl,-,x7,-,A⟩:=U.open;have HC:=(show Hid _ from D);have x2:=(show Hid _ from A);clear D A h U;go_enter Tryz.func85,Tryz.ntmps85;go_wp2_with fail
 go_loopw [5] (fun i wr=>∃k:Nat,i=.int .i64 k/\k<=K.length/\fV w.heap.size w wr) (fun i _=>K.length-(intOf i).toNat)
 case atStart=>exact⟨0,rfl,kR _,fH _ _⟩
 case round=>
  obtain⟨k,rfl,x8,S⟩:=hrel
  by_cases R:k<K.length
  ·have ik:((k:Int)<(K.length:Int)):=by omega
   obtain⟨l,H⟩:∃l,K[k]?=some l:=⟨_,List.getElem?_eq_getElem R⟩;obtain⟨g,off,ad,N,rfl,x9,Q,Z⟩:=HC.out k l H;obtain⟨W,G,J,I,rfl,x5,O,Y⟩:=x2.out k l H;have HX:Hid (∀V,fV w.heap.size w V->V.cell? ⟨g,off+k,none⟩=some (.slice ad l.length N)/\V.cell? ⟨W,G+k,none⟩=some (.slice J l.length I)):=fun V T=>⟨cB T Q,cB T O⟩;have F:=S.drew;have x1:Hid (Rs wr.drew (.slice ad l.length N) l):=Z.keep F;have x0:Hid (Rs wr.drew (.slice J l.length I) l):=Y.keep F;clear Q O Z Y H;go_wp2_with fail
   go_region_held3 (fun V=>V.cell? ⟨g,off+k,none⟩=some (.slice ad l.length N)/\V.cell? ⟨W,G+k,none⟩=some (.slice J l.length I))
    (first|exact HX.out _ F|exact HX.out _ L)
    (first
     | (go_at_call 26;refine (nG (decide_eq_true rfl) x1.out x0.out).mono ?_;rintro e w7 ⟨rfl,M⟩;have L:fV w.heap.size w w7:=aH F M))
   all_goals
    go_wp2_with fail;go_roundw
    case rel=>exact⟨k+1,by go_num,by omega,L⟩
    case measure=>simp[intOf];omega
  ·obtain rfl:k=K.length:=by omega
   have ik:¬((K.length:Int)<(K.length:Int)):=by omega
   go_wp2_with fail;go_ret;exact⟨rfl,S⟩
theorem pP {s:SS}{sp si sf sd up ui uf ud:iC}(h:bY w sp si sf sd s)(h':bY w up ui uf ud s):
  gZ jU 25 #[sv s.t.k s.t.n sp si sf sd,sv s.t.k s.t.n up ui uf ud] w (oZ w):=by
 obtain⟨a0,c0,a1,c1,a2,c2,a3,c3,rfl,rfl,rfl,rfl⟩:=h.sl;obtain⟨e0,d0,e1,d1,e2,d2,e3,d3,rfl,rfl,rfl,rfl⟩:=h'.sl;have b0:Bk ((w.alloc (.cells (sc s.t.k s.t.n (.slice a0 s.t.len c0) (.slice a1 s.K.length c1) (.slice a2 s.f.length c2) (.slice a3 s.d.length c3)) 30)).alloc (.cells (sc s.t.k s.t.n (.slice e0 s.t.len d0) (.slice e1 s.K.length d1) (.slice e2 s.f.length d2) (.slice e3 s.d.length d3)) 30)) w.heap.size (sc s.t.k s.t.n (.slice a0 s.t.len c0) (.slice a1 s.K.length c1) (.slice a2 s.f.length c2) (.slice a3 s.d.length c3)) 30:=(Bk.new _ _ rfl).alloc _;have b1:Bk ((w.alloc (.cells (sc s.t.k s.t.n (.slice a0 s.t.len c0) (.slice a1 s.K.length c1) (.slice a2 s.f.length c2) (.slice a3 s.d.length c3)) 30)).alloc (.cells (sc s.t.k s.t.n (.slice e0 s.t.len d0) (.slice e1 s.K.length d1) (.slice e2 s.f.length d2) (.slice e3 s.d.length d3)) 30)) (w.heap.size+1) (sc s.t.k s.t.n (.slice e0 s.t.len d0) (.slice e1 s.K.length d1) (.slice e2 s.f.length d2) (.slice e3 s.d.length d3)) 30:=Bk.new _ _ (by simp);have S:fV w.heap.size w ((w.alloc (.cells (sc s.t.k s.t.n (.slice a0 s.t.len c0) (.slice a1 s.K.length c1) (.slice a2 s.f.length c2) (.slice a3 s.d.length c3)) 30)).alloc (.cells (sc s.t.k s.t.n (.slice e0 s.t.len d0) (.slice e1 s.K.length d1) (.slice e2 s.f.length d2) (.slice e3 s.d.length d3)) 30)):=aG (aG (fH _ _) _) _;have hA:=h.keep S;have hB:=h'.keep S;clear h h';obtain⟨R,Q,O,N,M,L⟩:=b0.aY;obtain⟨J,I,H,G,F,D⟩:=b1.aY;go_enter Tryz.func25,Tryz.ntmps25;go_wp2_with fail;generalize ((w.alloc (.cells (sc s.t.k s.t.n (.slice a0 s.t.len c0) (.slice a1 s.K.length c1) (.slice a2 s.f.length c2) (.slice a3 s.d.length c3)) 30)).alloc (.cells (sc s.t.k s.t.n (.slice e0 s.t.len d0) (.slice e1 s.K.length d1) (.slice e2 s.f.length d2) (.slice e3 s.d.length d3)) 30))=W0 at*;refine gZ.mono (pL s.t hA.kd hB.kd) ?_;rintro e w1 ⟨rfl,A⟩;have h9:=hA.keep A;have Y:=hB.keep A;have U:=aH S A;have z0:=b0.keep A;have y9:=b1.keep A;clear R Q O N M L J I H G F D hA hB b0 b1 S A;obtain⟨R,Q,O,N,M,L⟩:=z0.aY;obtain⟨J,I,H,G,F,D⟩:=y9.aY;go_wp2_with fail;refine gZ.mono (Bg h9.ly Y.ly) ?_;rintro e w2 ⟨rfl,g⟩;have Z:=h9.keep g;have W:=Y.keep g;have T:=aH U g;have y8:=z0.keep g;have y7:=y9.keep g;clear R Q O N M L J I H G F D h9 Y z0 y9 U g;obtain⟨R,Q,O,N,M,L⟩:=y8.aY;obtain⟨J,I,H,G,F,D⟩:=y7.aY;go_wp2_with fail;refine (GM (decide_eq_true rfl) Z.ts W.ts).mono ?_;rintro e w3 ⟨rfl,a⟩;have v5:=Z.keep a;have v4:=W.keep a;have z7:=aH T a;have v7:=y8.keep a;have v6:=y7.keep a;clear R Q O N M L J I H G F D Z W y8 y7 T a;obtain⟨R,Q,O,N,M,L⟩:=v7.aY;obtain⟨J,I,H,G,F,D⟩:=v6.aY;go_wp2_with fail;refine (nG (decide_eq_true rfl) v5.rs v4.rs).mono ?_;rintro e w4 ⟨rfl,v3⟩;have z6:=aH z7 v3;clear R Q O N M L J I H G F D;go_wp2_with fail;go_ret;exact⟨rfl,z6⟩
attribute [local go_sem ↓] Go.wp_at_zero Go.wp_at_succ
def zeroS:SS:=⟨.n0 0 0,[],[],[]⟩
theorem j8 (w:gY):bY w bM bM bM bM zeroS:=
 ⟨⟨none,0,rfl⟩,⟨[],yC (oN xR 1 28 w 0) vQ (by simp),rfl,fun i u l h=>by simp at h⟩,aW.ts (oN _ _ _ w 0) (kR _),aD.rs (oN fX 5 55 w 0) (kR _)⟩
theorem Co {t:PT}{b:Bool}(hp:d7 t 4=b)(hs:cZ B w t s):
  gZ jU 102 #[pl t.k t.n s] w fun e a=>e=.returned (.bool b)/\fV w.heap.size w a:=by
 rw[<- hp];exact uB hs
theorem wM (w:gY)(a:Option Addr):Rs w (.slice a 0 0) []:=⟨a,0,rfl,kX _,by unfold maxLen;omega,by simp,fun i x hi=>by simp at hi⟩
theorem B0 {t:PT}(hp:d7 t 4=true)(hs:cZ B w t s):
  gZ jU 38 #[pl t.k t.n s] w fun e w'=>∃sp si sf,e=.returned (.tuple #[sv t.k t.n sp si sf bM,.bool true])/\fF w' (fun z=>w.heap.size+2<=z) sp si sf bM (qC t)/\fV w.heap.size w w':=by
 obtain⟨M,L,rfl⟩:=hs.sl;have bA:Bk ((w.alloc (.cells #[.int .i64 t.k,.int .i64 t.n,.slice M t.len L] 25)).alloc (.cells #[.int .i64 0,.int .i64 0,.slice none 0 0,.slice none 0 0,.slice none 0 0,.slice none 0 0] 30)) w.heap.size #[.int .i64 t.k,.int .i64 t.n,.slice M t.len L] 25:=(Bk.new _ _ rfl).alloc _;have bR:Bk ((w.alloc (.cells #[.int .i64 t.k,.int .i64 t.n,.slice M t.len L] 25)).alloc (.cells #[.int .i64 0,.int .i64 0,.slice none 0 0,.slice none 0 0,.slice none 0 0,.slice none 0 0] 30)) (w.heap.size+1) #[.int .i64 0,.int .i64 0,.slice none 0 0,.slice none 0 0,.slice none 0 0,.slice none 0 0] 30:=Bk.new _ _ (by simp);have h9:fV w.heap.size w ((w.alloc (.cells #[.int .i64 t.k,.int .i64 t.n,.slice M t.len L] 25)).alloc (.cells #[.int .i64 0,.int .i64 0,.slice none 0 0,.slice none 0 0,.slice none 0 0,.slice none 0 0] 30)):=aG (aG (fH _ _) _) _;have z2:((w.alloc (.cells #[.int .i64 t.k,.int .i64 t.n,.slice M t.len L] 25)).alloc (.cells #[.int .i64 0,.int .i64 0,.slice none 0 0,.slice none 0 0,.slice none 0 0,.slice none 0 0] 30)).heap.size=w.heap.size+2:=by simp
 obtain⟨x0,x1,x2⟩:=bA.aK;have U:=hs.keep h9;go_enter Tryz.func38,Tryz.ntmps38;go_wp2_with fail;generalize ((w.alloc (.cells #[.int .i64 t.k,.int .i64 t.n,.slice M t.len L] 25)).alloc (.cells #[.int .i64 0,.int .i64 0,.slice none 0 0,.slice none 0 0,.slice none 0 0,.slice none 0 0] 30))=W1 at*;refine (Co hp U).mono ?_;rintro e W0 ⟨rfl,F⟩;have x8:=bA.keep F;have x7:=bR.keep F;have Z:=aH h9 F;have x6:=U.keep F;have a1:w.heap.size+2<=W0.heap.size:=by have:=F.size;omega
 clear x0 x1 x2 bA bR h9 F U hs z2;obtain⟨x0,x1,x2⟩:=x8.aK;go_wp2_with fail;refine (mN t x6).mono ?_;rintro e a ⟨D,A,rfl,kp,H⟩;have Y:=aH Z H;have w9:=H.size;have G:fV a.heap.size a ((((a.alloc (.cells #[] 55)).alloc (.cells #[] 55)).alloc (.cells #[.slice (some ⟨a.heap.size,0,none⟩) 0 0,.slice (some ⟨a.heap.size+1,0,none⟩) 0 0] 28)).alloc (.cells #[.int .i64 0,.int .i64 0] 32)):=aG (aG (aG (aG (fH _ _) _) _) _) _;have bV:Bk ((((a.alloc (.cells #[] 55)).alloc (.cells #[] 55)).alloc (.cells #[.slice (some ⟨a.heap.size,0,none⟩) 0 0,.slice (some ⟨a.heap.size+1,0,none⟩) 0 0] 28)).alloc (.cells #[.int .i64 0,.int .i64 0] 32)) (a.heap.size+1+1) #[.slice (some ⟨a.heap.size,0,none⟩) 0 0,.slice (some ⟨a.heap.size+1,0,none⟩) 0 0] 28:=(Bk.new _ _ (by simp)).alloc _;have bT:Bk ((((a.alloc (.cells #[] 55)).alloc (.cells #[] 55)).alloc (.cells #[.slice (some ⟨a.heap.size,0,none⟩) 0 0,.slice (some ⟨a.heap.size+1,0,none⟩) 0 0] 28)).alloc (.cells #[.int .i64 0,.int .i64 0] 32)) (a.heap.size+1+1+1) #[.int .i64 0,.int .i64 0] 32:=Bk.new _ _ (by simp);have I:=(x7.keep H).keep G;have W:=aH Y G;have x5:dR (fun g=>W0.heap.size<=g) ((((a.alloc (.cells #[] 55)).alloc (.cells #[] 55)).alloc (.cells #[.slice (some ⟨a.heap.size,0,none⟩) 0 0,.slice (some ⟨a.heap.size+1,0,none⟩) 0 0] 28)).alloc (.cells #[.int .i64 0,.int .i64 0] 32)) t (.slice D t.len A):=kp.keep G;clear x0 x1 x2 x8 x7 Z H x6 kp G Y;have w8:=I.free 0;have T:=I.set 0 (.int .i64 t.k);have w7:=T.free 1;have S:=T.set 1 (.int .i64 t.n);have w6:=S.free 2;have R:=S.set 2 (.slice D t.len A);have w5:=R.free 3;have Q:=R.set 3 (.slice (some ⟨a.heap.size+1+1,0,none⟩) 2 2);have w4:=Q.free 4;have O:=Q.set 4 (.slice (some ⟨a.heap.size+1+1+1,0,none⟩) 1 1);have w2:=O.free 5;have x4:=O.set 5 (.slice none 0 0);have sN:Bk ((((((((((a.alloc (.cells #[] 55)).alloc (.cells #[] 55)).alloc (.cells #[.slice (some ⟨a.heap.size,0,none⟩) 0 0,.slice (some ⟨a.heap.size+1,0,none⟩) 0 0] 28)).alloc (.cells #[.int .i64 0,.int .i64 0] 32)).setCell ⟨w.heap.size+1,0,none⟩ (.int .i64 t.k)).setCell ⟨w.heap.size+1,1,none⟩ (.int .i64 t.n)).setCell ⟨w.heap.size+1,2,none⟩ (.slice D t.len A)).setCell ⟨w.heap.size+1,3,none⟩ (.slice (some ⟨a.heap.size+1+1,0,none⟩) 2 2)).setCell ⟨w.heap.size+1,4,none⟩ (.slice (some ⟨a.heap.size+1+1+1,0,none⟩) 1 1)).setCell ⟨w.heap.size+1,5,none⟩ (.slice none 0 0)) (w.heap.size+1) #[.int .i64 t.k,.int .i64 t.n,.slice D t.len A,.slice (some ⟨a.heap.size+1+1,0,none⟩) 2 2,.slice (some ⟨a.heap.size+1+1+1,0,none⟩) 1 1,.slice none 0 0] 30:=x4;obtain⟨v9,v8,v7,v6,v5,v4⟩:=I.aY;obtain⟨z0,y9,y8,y7,y6,y5⟩:=sN.aY;have N:∀z,z≠w.heap.size+1->((((((((((a.alloc (.cells #[] 55)).alloc (.cells #[] 55)).alloc (.cells #[.slice (some ⟨a.heap.size,0,none⟩) 0 0,.slice (some ⟨a.heap.size+1,0,none⟩) 0 0] 28)).alloc (.cells #[.int .i64 0,.int .i64 0] 32)).setCell ⟨w.heap.size+1,0,none⟩ (.int .i64 t.k)).setCell ⟨w.heap.size+1,1,none⟩ (.int .i64 t.n)).setCell ⟨w.heap.size+1,2,none⟩ (.slice D t.len A)).setCell ⟨w.heap.size+1,3,none⟩ (.slice (some ⟨a.heap.size+1+1,0,none⟩) 2 2)).setCell ⟨w.heap.size+1,4,none⟩ (.slice (some ⟨a.heap.size+1+1+1,0,none⟩) 1 1)).setCell ⟨w.heap.size+1,5,none⟩ (.slice none 0 0)).heap[z]?=((((a.alloc (.cells #[] 55)).alloc (.cells #[] 55)).alloc (.cells #[.slice (some ⟨a.heap.size,0,none⟩) 0 0,.slice (some ⟨a.heap.size+1,0,none⟩) 0 0] 28)).alloc (.cells #[.int .i64 0,.int .i64 0] 32)).heap[z]?:=fun z J=>(((((fD _ _ _ _ J).trans (fD _ _ _ _ J)).trans (fD _ _ _ _ J)).trans (fD _ _ _ _ J)).trans (fD _ _ _ _ J)).trans (fD _ _ _ _ J);clear T S R Q O x4;have zB:a.heap.size+4<=((((a.alloc (.cells #[] 55)).alloc (.cells #[] 55)).alloc (.cells #[.slice (some ⟨a.heap.size,0,none⟩) 0 0,.slice (some ⟨a.heap.size+1,0,none⟩) 0 0] 28)).alloc (.cells #[.int .i64 0,.int .i64 0] 32)).heap.size:=by simp
 have zW:((((((((((a.alloc (.cells #[] 55)).alloc (.cells #[] 55)).alloc (.cells #[.slice (some ⟨a.heap.size,0,none⟩) 0 0,.slice (some ⟨a.heap.size+1,0,none⟩) 0 0] 28)).alloc (.cells #[.int .i64 0,.int .i64 0] 32)).setCell ⟨w.heap.size+1,0,none⟩ (.int .i64 t.k)).setCell ⟨w.heap.size+1,1,none⟩ (.int .i64 t.n)).setCell ⟨w.heap.size+1,2,none⟩ (.slice D t.len A)).setCell ⟨w.heap.size+1,3,none⟩ (.slice (some ⟨a.heap.size+1+1,0,none⟩) 2 2)).setCell ⟨w.heap.size+1,4,none⟩ (.slice (some ⟨a.heap.size+1+1+1,0,none⟩) 1 1)).setCell ⟨w.heap.size+1,5,none⟩ (.slice none 0 0)).heap.size=((((a.alloc (.cells #[] 55)).alloc (.cells #[] 55)).alloc (.cells #[.slice (some ⟨a.heap.size,0,none⟩) 0 0,.slice (some ⟨a.heap.size+1,0,none⟩) 0 0] 28)).alloc (.cells #[.int .i64 0,.int .i64 0] 32)).heap.size:=by simp
 have z9:Hid (fF ((((((((((a.alloc (.cells #[] 55)).alloc (.cells #[] 55)).alloc (.cells #[.slice (some ⟨a.heap.size,0,none⟩) 0 0,.slice (some ⟨a.heap.size+1,0,none⟩) 0 0] 28)).alloc (.cells #[.int .i64 0,.int .i64 0] 32)).setCell ⟨w.heap.size+1,0,none⟩ (.int .i64 t.k)).setCell ⟨w.heap.size+1,1,none⟩ (.int .i64 t.n)).setCell ⟨w.heap.size+1,2,none⟩ (.slice D t.len A)).setCell ⟨w.heap.size+1,3,none⟩ (.slice (some ⟨a.heap.size+1+1,0,none⟩) 2 2)).setCell ⟨w.heap.size+1,4,none⟩ (.slice (some ⟨a.heap.size+1+1+1,0,none⟩) 1 1)).setCell ⟨w.heap.size+1,5,none⟩ (.slice none 0 0)) (fun z=>w.heap.size+2<=z) (.slice D t.len A) (.slice (some ⟨a.heap.size+1+1,0,none⟩) 2 2) (.slice (some ⟨a.heap.size+1+1+1,0,none⟩) 1 1) bM (qC t)):=by
  intro V hV;have x3:∀z,w.heap.size+2<=z->z<((((a.alloc (.cells #[] 55)).alloc (.cells #[] 55)).alloc (.cells #[.slice (some ⟨a.heap.size,0,none⟩) 0 0,.slice (some ⟨a.heap.size+1,0,none⟩) 0 0] 28)).alloc (.cells #[.int .i64 0,.int .i64 0] 32)).heap.size->V.heap[z]?=((((a.alloc (.cells #[] 55)).alloc (.cells #[] 55)).alloc (.cells #[.slice (some ⟨a.heap.size,0,none⟩) 0 0,.slice (some ⟨a.heap.size+1,0,none⟩) 0 0] 28)).alloc (.cells #[.int .i64 0,.int .i64 0] 32)).heap[z]?:=fun z h1 h2=>(hV z h1 (by rw[zW];exact h2)).trans (N z (by omega));have z3:Bk V (a.heap.size+1+1) #[.slice (some ⟨a.heap.size,0,none⟩) 0 0,.slice (some ⟨a.heap.size+1,0,none⟩) 0 0] 28:=by unfold Bk;rw[x3 _ (by omega) (by omega)];exact bV
  have z5:Bk V (a.heap.size+1+1+1) #[.int .i64 0,.int .i64 0] 32:=by unfold Bk;rw[x3 _ (by omega) (by omega)];exact bT
  obtain⟨v0,v1,_,_⟩:=z3.two;exact MB ((x5.move (q:=fun _=>True) fun g hg hl=>⟨trivial,x3 g (by omega) hl⟩).kd fun g _=>kR _) v0 v1 (wM _ _) (wM _ _) (by decide) (by unfold maxLen;omega) (by decide) (by unfold maxLen;omega) z5
 have u0:Hid (fV w.heap.size w ((((((((((a.alloc (.cells #[] 55)).alloc (.cells #[] 55)).alloc (.cells #[.slice (some ⟨a.heap.size,0,none⟩) 0 0,.slice (some ⟨a.heap.size+1,0,none⟩) 0 0] 28)).alloc (.cells #[.int .i64 0,.int .i64 0] 32)).setCell ⟨w.heap.size+1,0,none⟩ (.int .i64 t.k)).setCell ⟨w.heap.size+1,1,none⟩ (.int .i64 t.n)).setCell ⟨w.heap.size+1,2,none⟩ (.slice D t.len A)).setCell ⟨w.heap.size+1,3,none⟩ (.slice (some ⟨a.heap.size+1+1,0,none⟩) 2 2)).setCell ⟨w.heap.size+1,4,none⟩ (.slice (some ⟨a.heap.size+1+1+1,0,none⟩) 1 1)).setCell ⟨w.heap.size+1,5,none⟩ (.slice none 0 0))):=((((((W.setCell (by simp) _).setCell (by simp) _).setCell (by simp) _).setCell (by simp) _).setCell (by simp) _).setCell (by simp) _);clear N sN I W bV bT x5 zB zW;go_wp2_with fail;refine bodyPost_ret (v:= .tuple #[sv t.k t.n (.slice D t.len A) (.slice (some ⟨a.heap.size+1+1,0,none⟩) 2 2) (.slice (some ⟨a.heap.size+1+1+1,0,none⟩) 1 1) bM,.bool true]) (by simp[results,Tryz.results38,go_sem,z0,y9,y8,y7,y6,y5];try rfl) rfl ?_;exact⟨_,_,_,rfl,z9.out,u0.out⟩
end Go.Proofs.YtbdpcngcbnoioaaGreatDoor
