import Derived.Test.YtbdpcngcbnoioaaGreatDoorGj2
import Derived.Test.YtbdpcngcbnoioaaGreatDoorGj1
import Derived.Test.YtbdpcngcbnoioaaGreatDoorGk2
set_option maxRecDepth 100000
set_option maxHeartbeats 16000000
namespace Go.Proofs.YtbdpcngcbnoioaaGreatDoor
open Go.RowKit
open Go.ChangeMaps (setBlock)
open Go.World renaming cell?_of_block->fM,alloc->fQ,setCell->gD
open Go.RowKit renaming Below->gM,run_makeMap->gQ
open Go.Proofs.Tryz renaming prog->gX,underlying228->iM
open Go renaming World->iP,Value->jB,bodyPost_ret->jO,Calls->mO
open Go.RowKit.Below renaming refl->nA
open _root_.List renaming mem_of_getElem?->nB,take_length->nT
theorem dU.ev {a:Type}{A:a->jB}{s:a->Prop}{w:iP}{b r:Nat}{M left:List (a×Int)}(h:dU A s w b r M left):∀p∈M,s p.1:=by
 obtain⟨_,_,_,_,_,_,_,ho,_⟩:=h;exact ho
theorem LC {M done left:List It}{p:It}(hn:(M.map Prod.fst).Nodup)(hp:M.Perm (done++p::left)){C s:List It}(A:∀z,aK C z=aK done z)(a:∀z,aK s z=if p.1=z then p.2 else aK C z)(z:Int×Int):aK s z=aK (done++[p]) z:=by
 rw[a,eG,A]
 by_cases e:p.1=z
 ·rw[if_pos e,if_pos e];have h1:((done++p::left).map Prod.fst).Nodup:=(hp.map Prod.fst).nodup_iff.1 hn;rw[List.map_append,List.nodup_append]at h1;have h2:aK done z=0:=iS fun r hr B=>by
   exact h1.2.2 r.1 (List.mem_map_of_mem hr) p.1 (by simp) (by rw[B,e])
  omega
 ·rw[if_neg e,if_neg e];omega
theorem E9 (R:Nat)(M P:List It)(w:iP)(x2:iG gC thOk w R M)(J:∀z,aK M z=aK P z)(d0:M.length<=1000000)(hA:aJ P<=4000000000000000000):
  mO gX 196 #[.map (some R)] w fun e w'=>∃o:jB,e=.returned (.tuple #[o,.bool true])/\aQ w' w.heap.size o (aO bJ P)/\gM w.heap.size w w':=by
 have HA:Hid (aJ P<=4000000000000000000):=hA;have y8:Hid (∀z,aK M z=aK P z):=J;have v5:=@gQ gX;have m4:bG gC thOk (w.alloc (.map #[] 0)) w.heap.size []:=bG.new w rfl;have x5:gM w.heap.size w (w.alloc (.map #[] 0)):=aH (nA _ _) _;have G:=x2.keep x5;have z1:=x2.lt;have x3:gM w.heap.size w (w.alloc (.map #[] 0)):=x5;have b5:w.heap.size<(w.alloc (.map #[] 0)).heap.size:=by simp
 clear J hA x2 x5;go_enter Tryz.func196,Tryz.ntmps196
 go_upto_region 2 with fail
 clear v5;generalize (w.alloc (.map #[] 0))=wA at*;have b9:R<w.heap.size:=z1
 go_wp2_with (at_range;refine Lu _ rfl _ _ rfl _ _ iM _ M rfl G ?_;intro w5 a x6 v3)
 go_frame
 have m5:=m4.keep x6;have x4:=aG x3 x6;have b8:=G.lt;clear m4 G x6 x3;generalize w1:wA.heap.size=Q at*;clear w1
 go_loopw [8] (fun _ wr=>∃(done left C:List It),dU gC thOk wr R Q M left/\M.Perm (done++left)/\bG gC thOk wr w.heap.size C/\(∀z,aK C z=aK done z)/\C.length<=done.length/\Q<wr.heap.size/\gM w.heap.size w wr) (fun _ wr=>wW wr R Q)
 case atStart=>exact⟨[],M,[],a,by simp,m5,fun z=>rfl,by simp,by omega,x4⟩
 case round=>
  clear a x4 v3 m5;obtain⟨done,left,C,a,x1,H,U,d3,b4,hb⟩:=hrel;have x9:=(show Hid (M.Perm (done++left)) from x1);have HN:=(show Hid ((M.map Prod.fst).Nodup) from a.nodup);have a0:=(show Hid (∀p∈M,thOk p.1) from a.ev);have HT:=(show Hid (∀z,aK C z=aK done z) from U);have z3:=a.count;have v7:done.length+left.length=M.length:=by have:=x1.length_eq;simp at this;omega
  clear x1 U
  go_wp2_with (at_next;refine Nj _ rfl _ rfl _ _ M left rfl a ?_ ?_)
  ·intro hz;subst hz;have w4:Hid (∀z,aK C z=aK P z):=fun z=>by
    have h1:=x9.out;rw[List.append_nil]at h1;rw[HT.out,<-G5 h1,y8.out]
   have v8:=hb.size;clear HT x9 z3 a;go_wp2_with fail;refine (kV w.heap.size wr H (by simp at v7;omega) w4.out).mono ?_;rintro e O ⟨o8,rfl,S,s⟩;have O8:Hid (aQ O wr.heap.size o8 (aO bJ P)):=S;clear S;go_wp2_with fail;refine jO (by simp[results,Tryz.results196,go_sem];try rfl) rfl ?_;exact⟨_,rfl,cW O8.out v8,aG hb s⟩
  ·intro K V D A B hp x0 v6 T v2 c0;have y4:bG gC thOk B w.heap.size C:=H.move (T.block w.heap.size H.lt (by omega));have y6:gM w.heap.size w B:=T.below hb hb.size (by omega);have x8:M.Perm (done++((K,V),D)::A):=x9.out.trans (hp.append_left done);have z0:=(show Hid (M.Perm (done++((K,V),D)::A)) from x8);have I:((K,V),D)∈M:=x8.mem_iff.2 (by simp);have v4:thOk (K,V):=a0.out _ I;have hD: -4000000000000000000<=D/\D<=4000000000000000000:=by
    have h1:=pR HN.out I;have h2:=iT P (K,V);have h3:=HA.out;rw[y8.out]at h1;simp only at h1;omega
   clear I x8 T H a hb;have L:gM B.heap.size B ((B.alloc (.cells #[.int .i64 K,.int .i64 V] 131)).alloc (.cells #[.int .u64 (wH D),.int .u64 (wL D)] 272)):=aH (aH (nA _ _) _) _;have bk:=(Bk.new (w:=B) #[.int .i64 K,.int .i64 V] 131 rfl).alloc (.cells #[.int .u64 (wH D),.int .u64 (wL D)] 272);have bw:=Bk.new (w:=B.alloc (.cells #[.int .i64 K,.int .i64 V] 131)) #[.int .u64 (wH D),.int .u64 (wL D)] 272 rfl;simp only[iP.size_alloc]at bw;have y3:=y4.keep L;have h9:=x0.keep L;have y5:=aG y6 L;have b7:Q<((B.alloc (.cells #[.int .i64 K,.int .i64 V] 131)).alloc (.cells #[.int .u64 (wH D),.int .u64 (wL D)] 272)).heap.size:=by simp;omega
   clear v2
   go_upto_region 7 with fail
   clear v6 y4 x0 y6 L;generalize B.heap.size=kb at*;generalize fQ (fQ _ _) _=w7 at*;obtain⟨q0,q1,-,-⟩:=bw.two;go_wp2_with fail;refine (J6 hD _).mono ?_;rintro e O ⟨rfl,s⟩;have y7:=bk.keep s;have y2:=y3.keep s;have Z:=h9.keep s;have z4:=aG y5 s;have b6:=s.size;obtain⟨k0,k1,-,-⟩:=y7.two;obtain⟨o2,C',e1,w2,y1,c4⟩:=y2.put j6 Tryz.underlying126 v4 D;have a2:Hid (∀z,aK C' z=aK (done++[((K,V),D)]) z):=LC HN.out z0.out HT.out y1;have Y:dU gC thOk (setBlock O w.heap.size o2) R Q M A:=Z.move (fU (by omega)) (fU (by omega));have v9:gM w.heap.size w (setBlock O w.heap.size o2):=eR z4 (by omega);have v1:Q<(setBlock O w.heap.size o2).heap.size:=by rw[oO];omega
   clear q0 q1 bw bk y3 h9 y5 s y7 y1 y2 Z;go_wp2_with fail;clear e1 k0 k1;generalize setBlock O w.heap.size o2=w9 at*;go_roundw
   case rel=>exact⟨done++[((K,V),D)],A,C',Y,by simpa using z0.out,w2,a2.out,by simp;omega,v1,v9⟩
   case measure=>rw[Y.count];omega
set_option maxRecDepth 100000
set_option maxHeartbeats 16000000
open Go.RowKit
open Go.ChangeMaps (setBlock)
attribute [local go_sem ↓] Go.wp_at_zero Go.wp_at_succ
theorem Nx:∀w:iP,(zeroValue 272).run gX w=.ok (wz 0) w:=Tryz.zeroValue272
theorem L8 (a b:Int)(w:iP):mO gX 233 #[wz a,wz b] w fun e A=>e=.returned (wz (a+b))/\gM w.heap.size w A:=by
 have s:∀z,wL z<18446744073709551616:=fun z=>by unfold wL;omega
 have h:=N8 (wH a) (wL a) (wH b) (wL b) (s a) (s b) w;rw[(Ls (a:=a) (b:=b)).1,(Ls (a:=a) (b:=b)).2]at h;exact h
theorem iV {W:iP}{b g i:Nat}{o:Obj}(h:g≠b):(setBlock W b o).cell? ⟨g,i,none⟩=W.cell? ⟨g,i,none⟩:=fM (w:=W) (fU h)
theorem IH {M s t:List It}{i k:Nat}{x y:It}(A:∀z,aK M z=aK (eY (s.take i) t++oZ x (t.take k)) z)(D:t[k]?=some y)(e:x.1.1=y.1.1){B:List It}(a:∀z,aK B z=if (x.1.1,pv x.1.2 y.1.2)=z then aK M (x.1.1,pv x.1.2 y.1.2)+x.2*y.2 else aK M z)(z:Int×Int):
  aK B z=aK (eY (s.take i) t++oZ x (t.take (k+1))) z:=by
 rw[a,PN D e,<-List.append_assoc,eG]
 by_cases h:(x.1.1,pv x.1.2 y.1.2)=z
 ·rw[if_pos h,if_pos h,h,A]
 ·rw[if_neg h,if_neg h,A];omega
theorem Nu {K V a:Int}(h0:0<=K)(h3:K<=3):thOk (K,pv V a):=⟨by unfold nG;omega,by unfold nG pv;omega⟩
theorem Gs (v u:jB)(s t:List It)(w:iP)(h:Is w v s)(h':Is w u t)(hk:aX s=true)(w2:aX t=true)(n6:aJ s<=1200000)(n5:aJ t<=1200000):
  mO gX 197 #[v,u] w fun e w'=>∃(b:Nat)(M:List It),e=.returned (.map (some b))/\w.heap.size<=b/\iG gC thOk w' b M/\(∀z,aK M z=aK (eY s t) z)/\M.length<=200000/\gM w.heap.size w w':=by
 have m1:=dF hk;have l1:=dF w2;have i0:Hid (∀(k:Nat)(x:Int×Int)(d:Int),s[k]?=some (x,d)->jK x):=fun k x d hr=>mN hk _ (nB hr);have g9:Hid (∀(k:Nat)(x:Int×Int)(d:Int),t[k]?=some (x,d)->jK x):=fun k x d hr=>mN w2 _ (nB hr);have j5:Hid (∀(k:Nat)(r:It),s[k]?=some r -> -1200000<=r.2/\r.2<=1200000):=fun k r hr=>by have:=Ha hr;omega
 have i9:Hid (∀(k:Nat)(r:It),t[k]?=some r -> -1200000<=r.2/\r.2<=1200000):=fun k r hr=>by have:=Ha hr;omega
 have g0:=@gQ gX;have m0:iG gC thOk (w.alloc (.map #[] 0)) w.heap.size []:=iG.new w rfl;have w5:gM w.heap.size w (w.alloc (.map #[] 0)):=aH (nA _ _) _;have l7:w.heap.size<(w.alloc (.map #[] 0)).heap.size:=by simp
 obtain⟨aS,cS,rfl,m5,g3,l9,z0⟩:=Is.open (h.keep w5);obtain⟨aT,cT,rfl,m4,g1,l8,y8⟩:=Is.open (h'.keep w5);unfold maxLen at g3 g1;have f5:Hid (∀i,i<s.length->∀g off,aS=some ⟨g,off,none⟩->g<w.heap.size):=fun i hi g off e=>by
  obtain⟨a1,c1,e1,_,_,_,hc⟩:=Is.open h;obtain⟨g',d9,_,_,_,e2,hg,_⟩:=hc i hi;simp only[jB.slice.injEq]at e1;rw[<- e1.1,e]at e2;cases e2;exact hg
 have f4:Hid (∀i,i<t.length->∀g off,aT=some ⟨g,off,none⟩->g<w.heap.size):=fun i hi g off e=>by
  obtain⟨a1,c1,e1,_,_,_,hc⟩:=Is.open h';obtain⟨g',d9,_,_,_,e2,hg,_⟩:=hc i hi;simp only[jB.slice.injEq]at e1;rw[<- e1.1,e]at e2;cases e2;exact hg
 have i8:=(show Hid _ from z0);have i5:=(show Hid _ from y8);clear z0 y8 h h' hk w2;go_enter Tryz.func197,Tryz.ntmps197
 go_upto_region 2 with fail
 clear g0;generalize b9:w.heap.size=A at*;generalize (w.alloc (.map #[] 0))=w0 at*;have d3:Hid (w.heap.size=A):=b9;clear b9;go_wp2_with fail
 go_loopw [14] (fun i wr=>∃(k:Nat)(M:List It),k<=s.length/\i=.int .i64 k/\iG gC thOk wr A M/\(∀z,aK M z=aK (eY (s.take k) t) z)/\M.length<=k*400/\Bx A w0 wr) (fun i _=>s.length-(intOf i).toNat)
 case atStart=>exact⟨0,[],by omega,rfl,m0,fun z=>by simp[eY],by simp,Bx.refl _ _⟩
 case round=>
  clear m0;obtain⟨i,M,m3,rfl,O,Y,b8,hx⟩:=hrel
  by_cases b7:i<s.length
  ·obtain⟨g,off,K,V,D,rfl,hg,hr,c0,c1,c2⟩:=i8.out i b7;have w3:g≠A:=by have:=f5.out i b7 _ _ rfl;omega
   have d0:wr.cell? ⟨g,off+i*3,none⟩=some (.int .i64 K):=by rw[fM (w:=w0) (hx.block g hg w3)];exact c0
   have d1:wr.cell? ⟨g,off+i*3+1,none⟩=some (.int .i64 V):=by rw[fM (w:=w0) (hx.block g hg w3)];exact c1
   have d2:wr.cell? ⟨g,off+i*3+2,none⟩=some (.int .i64 D):=by rw[fM (w:=w0) (hx.block g hg w3)];exact c2
   have ii:((i:Int)<(s.length:Int)):=by omega
   have HZ:=(show Hid _ from Kz t hr);obtain⟨i1,i2,i3,i4⟩:=i0.out i _ _ hr;simp only at i1 i2 i3 i4;obtain⟨a4,a3⟩:=j5.out i _ hr;simp only at a4 a3;clear hr c0 c1 c2;have x5:gM wr.heap.size wr (wr.alloc (.cells #[.int .i64 K,.int .i64 V,.int .i64 D] 98)):=aH (nA _ _) _;have c4:=Bk.new (w:=wr) #[.int .i64 K,.int .i64 V,.int .i64 D] 98 rfl;have v3:=O.keep x5;have b6:=hx.trans (Bx.aD x5);have l0:=O.lt;have HT:Hid (∀z,aK M z=aK (eY (s.take i) t) z):=Y;have v7:wr.heap.size≠A:=by omega
   go_upto_region 5 with fail
   clear d0 d1 d2 O hx x5 Y;generalize g6:wr.heap.size=xb at*;generalize fQ _ _=wx at*;clear g6;go_wp2_with fail
   go_loopw [20] (fun j wr=>∃(k:Nat)(M:List It),k<=t.length/\j=.int .i64 k/\iG gC thOk wr A M/\(∀z,aK M z=aK (eY (s.take i) t++oZ ((K,V),D) (t.take k)) z)/\M.length<=i*400+k/\Bx A wx wr) (fun j _=>t.length-(intOf j).toNat)
   case atStart=>exact⟨0,M,by omega,rfl,v3,fun z=>by rw[HT.out];simp[oZ],by omega,Bx.refl _ _⟩
   case round=>
    clear v3 HT b8;obtain⟨k,M,m2,rfl,O,Y,b8,hx⟩:=hrel
    by_cases w1:k<t.length
    ·obtain⟨g2,z7,K2,G,S,rfl,w4,v2,c0,c1,c2⟩:=i5.out k w1;have z8:g2≠A:=by have:=f4.out k w1 _ _ rfl;omega
     have v1:=b6.trans hx;have d0:wr.cell? ⟨g2,z7+k*3,none⟩=some (.int .i64 K2):=by rw[fM (w:=w0) (v1.block g2 w4 z8)];exact c0
     have d1:wr.cell? ⟨g2,z7+k*3+1,none⟩=some (.int .i64 G):=by rw[fM (w:=w0) (v1.block g2 w4 z8)];exact c1
     have d2:wr.cell? ⟨g2,z7+k*3+2,none⟩=some (.int .i64 S):=by rw[fM (w:=w0) (v1.block g2 w4 z8)];exact c2
     have ik:((k:Int)<(t.length:Int)):=by omega
     obtain⟨j1,j2,j3,j4⟩:=g9.out k _ _ v2;simp only at j1 j2 j3 j4;obtain⟨a2,a0⟩:=i9.out k _ v2;simp only at a2 a0;have b0:=(show Hid (t[k]?=some ((K2,G),S)) from v2);have HT:Hid (∀z,aK M z=aK (eY (s.take i) t++oZ ((K,V),D) (t.take k)) z):=Y;have x5:gM wr.heap.size wr (wr.alloc (.cells #[.int .i64 K2,.int .i64 G,.int .i64 S] 98)):=aH (nA _ _) _;have g7:=Bk.new (w:=wr) #[.int .i64 K2,.int .i64 G,.int .i64 S] 98 rfl;have L:=O.keep x5;have x8:=hx.trans (Bx.aD x5);have k0:=O.lt;have g8:Bk (wr.alloc (.cells #[.int .i64 K2,.int .i64 G,.int .i64 S] 98)) xb #[.int .i64 K,.int .i64 V,.int .i64 D] 98:=by
      unfold Bk;rw[x8.block xb c4.lt v7];exact c4
     have b5:wr.heap.size≠A:=by omega
     clear v2 c0 c1 c2 Y
     go_upto_region 8 with fail
     clear d0 d1 d2 O hx x5 v1;generalize g5:wr.heap.size=yb at*;generalize fQ _ _=H at*;clear g5;obtain⟨x0,x1,x2⟩:=g8.three;obtain⟨y0,y1,y2⟩:=g7.three
     by_cases hK:K=K2
     ·subst hK;have HX:Hid (∀W,gM H.heap.size H W->W.cell? ⟨xb,0,none⟩=some (.int .i64 K)/\W.cell? ⟨xb,1,none⟩=some (.int .i64 V)/\W.cell? ⟨yb,1,none⟩=some (.int .i64 G)):=
       fun W a=>⟨cB a x0,cB a x1,cB a y1⟩
      have w7:gM H.heap.size H H.drew:=(nA _ _).drew;have w8:gM H.heap.size H (H.alloc (.cells #[.int .i64 0,.int .i64 0] 131)).drew:=(aH (nA _ H) _).drew;have d4:Hid (∀W wc,gM H.heap.size H W->gM W.heap.size W wc->gM H.heap.size H wc):=fun W wc a I=>aG a I;go_wp2_with fail;have a9:Hid (∀wc u v,gM H.heap.size H wc->gM H.heap.size H ((wc.setCell ⟨H.heap.size,0,none⟩ u).setCell ⟨H.heap.size,1,none⟩ v)):=fun wc u v a=>
       (a.setCell (Nat.le_refl _) _).setCell (Nat.le_refl _) _
      go_region_held3 (fun W=>W.cell? ⟨xb,0,none⟩=some (.int .i64 K)/\W.cell? ⟨xb,1,none⟩=some (.int .i64 V)/\W.cell? ⟨yb,1,none⟩=some (.int .i64 G))
       (first|exact HX.out _ (a9.out _ _ _ Q)|exact HX.out _ Q|exact HX.out _ (aH Q _)|exact HX.out _ w7|exact HX.out _ (aH w7 _)|exact HX.out _ w8)
       (first
        | (go_at_call 223;with_reducible refine (vA i3 i4 j3 j4 _).mono ?_;rintro e wc ⟨rfl,I⟩;with_reducible refine P2 I ?_;intro n0 n1 n2 n3 n4;have Q:=d4.out _ _ w8 I)
        | (go_at_call 223;with_reducible refine (vA i3 i4 j3 j4 _).mono ?_;rintro e wc ⟨rfl,I⟩;have Q:=d4.out _ _ w7 I))
      ·have bp:=Bk.new (w:=wc) #[.int .i64 K,.int .i64 (pv V G)] 131 rfl;have R:=aH Q (.cells #[.int .i64 K,.int .i64 (pv V G)] 131);have y6:wc.heap.size≠A:=by have h1:=Q.size;have h2:=L.lt;omega
       clear I Q;generalize wc.heap.size=pb at*;generalize fQ wc _=B at*;have J:=L.keep R;have y5:=x8.trans (Bx.aD R);obtain⟨p0,p1,-,-⟩:=bp.two;have y4:=cB R x2;have y3:=cB R y2;have y7:thOk (K,pv V G):=Nu i1 i2;have b4:=J.lt;have h9:Hid (∀W,gM B.heap.size B W->(W.cell? ⟨pb,0,none⟩=some (.int .i64 K)/\W.cell? ⟨pb,1,none⟩=some (.int .i64 (pv V G)))/\W.cell? ⟨xb,2,none⟩=some (.int .i64 D)/\W.cell? ⟨yb,2,none⟩=some (.int .i64 S)):=
        fun W a=>⟨⟨cB a p0,cB a p1⟩,cB a y4,cB a y3⟩
       have a8:Hid (∀W o,gM B.heap.size B W->((setBlock W A o).cell? ⟨pb,0,none⟩=some (.int .i64 K)/\(setBlock W A o).cell? ⟨pb,1,none⟩=some (.int .i64 (pv V G)))/\(setBlock W A o).cell? ⟨xb,2,none⟩=some (.int .i64 D)/\(setBlock W A o).cell? ⟨yb,2,none⟩=some (.int .i64 S)):=
        fun W o a=>by rw[iV y6,iV y6,iV v7,iV b5];exact h9.out W a
       have z4:Hid (∀W,gM B.heap.size B W->(Instr.lookup 228 (.map (some A)) (gC (K,pv V G)) false).run gX W=.ok (wz (aK M (K,pv V G))) W):=fun W a=>(J.keep a).look j6 iM Nx y7;have b1:Hid (∀W,gM B.heap.size B W->∃(U:Obj)(Z:List It),(Instr.mapUpdate 228 (.map (some A)) (gC (K,pv V G)) (wz (aK M (K,pv V G)+D*S))).run gX W=.ok () (setBlock W A U)/\iG gC thOk (setBlock W A U) A Z/\(∀z,aK Z z=aK (eY (s.take i) t++oZ ((K,V),D) (t.take (k+1))) z)/\Z.length<=M.length+1/\Bx A wx (setBlock W A U)):=fun W a=>by
        obtain⟨U,Z,e1,h1,h2,h3⟩:=(J.keep a).put j6 iM y7 (aK M (K,pv V G)+D*S);exact⟨U,Z,e1,h1,fun z=>IH (x:=((K,V),D)) HT.out b0.out rfl h2 z,h3,(y5.trans (Bx.aD a)).cu U⟩
       have x6:gM B.heap.size B B.drew:=(nA _ _).drew;have f9:=z4.out _ x6;have z5:Hid (∀W wc,gM B.heap.size B W->gM W.heap.size W wc->gM B.heap.size B wc):=fun W wc a I=>aG a I;clear HT HX x0 x1 x2 y0 y1 y2 p0 p1 y4 y3 L x8 R bp y5;generalize aK M (K,pv V G)=T at*;go_wp2_with fail
       go_region_held3 (fun W=>(W.cell? ⟨pb,0,none⟩=some (.int .i64 K)/\W.cell? ⟨pb,1,none⟩=some (.int .i64 (pv V G)))/\W.cell? ⟨xb,2,none⟩=some (.int .i64 D)/\W.cell? ⟨yb,2,none⟩=some (.int .i64 S))
        (first|exact a8.out _ _ x4|exact h9.out _ x4|exact h9.out _ hq|exact h9.out _ x6)
        (first
         | (go_at_call 234;with_reducible refine (xR ⟨a4,a3⟩ ⟨a2,a0⟩ _).mono ?_;rintro e wc ⟨rfl,I⟩;have hq:=z5.out _ _ x6 I;have lk:=z4.out _ hq)
         | (go_at_call 233;with_reducible refine (L8 T (D*S) _).mono ?_;rintro e wd ⟨rfl,w6⟩;have x4:=z5.out _ _ hq w6;obtain⟨U,Z,e1,w9,v9,g4,v8⟩:=b1.out _ x4))
       all_goals
        go_wp2_with fail;go_roundw
        case rel=>exact⟨k+1,Z,by omega,by go_num,w9,v9,by omega,v8⟩
        case measure=>simp[intOf];omega
      ·have bp:=((kD.new (w:=H) (.int .i64 0) (.int .i64 0) 131 rfl).drew.keep I).ai (.int .i64 K) (.int .i64 (pv V G));have R:=a9.out _ (.int .i64 K) (.int .i64 (pv V G)) Q;have y6:H.heap.size≠A:=by have h2:=L.lt;omega
       clear I Q n0 n1 n2 n3 n4 w8 a9;generalize gD (gD wc _ _) _ _=B at*;have J:=L.keep R;have y5:=x8.trans (Bx.aD R);obtain⟨p0,p1,-,-⟩:=bp.two;have y4:=cB R x2;have y3:=cB R y2;have y7:thOk (K,pv V G):=Nu i1 i2;have b4:=J.lt;have h9:Hid (∀W,gM B.heap.size B W->(W.cell? ⟨H.heap.size,0,none⟩=some (.int .i64 K)/\W.cell? ⟨H.heap.size,1,none⟩=some (.int .i64 (pv V G)))/\W.cell? ⟨xb,2,none⟩=some (.int .i64 D)/\W.cell? ⟨yb,2,none⟩=some (.int .i64 S)):=
        fun W a=>⟨⟨cB a p0,cB a p1⟩,cB a y4,cB a y3⟩
       have a8:Hid (∀W o,gM B.heap.size B W->((setBlock W A o).cell? ⟨H.heap.size,0,none⟩=some (.int .i64 K)/\(setBlock W A o).cell? ⟨H.heap.size,1,none⟩=some (.int .i64 (pv V G)))/\(setBlock W A o).cell? ⟨xb,2,none⟩=some (.int .i64 D)/\(setBlock W A o).cell? ⟨yb,2,none⟩=some (.int .i64 S)):=
        fun W o a=>by rw[iV y6,iV y6,iV v7,iV b5];exact h9.out W a
       have z4:Hid (∀W,gM B.heap.size B W->(Instr.lookup 228 (.map (some A)) (gC (K,pv V G)) false).run gX W=.ok (wz (aK M (K,pv V G))) W):=fun W a=>(J.keep a).look j6 iM Nx y7;have b1:Hid (∀W,gM B.heap.size B W->∃(U:Obj)(Z:List It),(Instr.mapUpdate 228 (.map (some A)) (gC (K,pv V G)) (wz (aK M (K,pv V G)+D*S))).run gX W=.ok () (setBlock W A U)/\iG gC thOk (setBlock W A U) A Z/\(∀z,aK Z z=aK (eY (s.take i) t++oZ ((K,V),D) (t.take (k+1))) z)/\Z.length<=M.length+1/\Bx A wx (setBlock W A U)):=fun W a=>by
        obtain⟨U,Z,e1,h1,h2,h3⟩:=(J.keep a).put j6 iM y7 (aK M (K,pv V G)+D*S);exact⟨U,Z,e1,h1,fun z=>IH (x:=((K,V),D)) HT.out b0.out rfl h2 z,h3,(y5.trans (Bx.aD a)).cu U⟩
       have x6:gM B.heap.size B B.drew:=(nA _ _).drew;have f9:=z4.out _ x6;have z5:Hid (∀W wc,gM B.heap.size B W->gM W.heap.size W wc->gM B.heap.size B wc):=fun W wc a I=>aG a I;clear HT HX x0 x1 x2 y0 y1 y2 p0 p1 y4 y3 L x8 R bp y5;generalize aK M (K,pv V G)=T at*;go_wp2_with fail
       go_region_held3 (fun W=>(W.cell? ⟨H.heap.size,0,none⟩=some (.int .i64 K)/\W.cell? ⟨H.heap.size,1,none⟩=some (.int .i64 (pv V G)))/\W.cell? ⟨xb,2,none⟩=some (.int .i64 D)/\W.cell? ⟨yb,2,none⟩=some (.int .i64 S))
        (first|exact a8.out _ _ x4|exact h9.out _ x4|exact h9.out _ hq|exact h9.out _ x6)
        (first
         | (go_at_call 234;with_reducible refine (xR ⟨a4,a3⟩ ⟨a2,a0⟩ _).mono ?_;rintro e wc ⟨rfl,I⟩;have hq:=z5.out _ _ x6 I;have lk:=z4.out _ hq)
         | (go_at_call 233;with_reducible refine (L8 T (D*S) _).mono ?_;rintro e wd ⟨rfl,w6⟩;have x4:=z5.out _ _ hq w6;obtain⟨U,Z,e1,w9,v9,g4,v8⟩:=b1.out _ x4))
       all_goals
        go_wp2_with fail;go_roundw
        case rel=>exact⟨k+1,Z,by omega,by go_num,w9,v9,by omega,v8⟩
        case measure=>simp[intOf];omega
     ·have nx:(K==K2)=false:=beq_eq_false_iff_ne.2 hK;go_wp2_with fail;go_roundw
      case rel=>exact⟨k+1,M,by omega,by go_num,L,fun z=>by rw[HT.out,QG b0.out hK],by omega,x8⟩
      case measure=>simp[intOf];omega
    ·obtain rfl:k=t.length:=by omega
     go_wp2_with fail;go_roundw
     case rel=>exact⟨i+1,M,by omega,by go_num,O,fun z=>by rw[Y,nT,<-HZ.out],by omega,b6.trans hx⟩
     case measure=>simp[intOf];omega
  ·obtain rfl:i=s.length:=by omega
   go_wp2_with fail;go_ret;exact⟨A,M,rfl,by have:=d3.out;omega,O,fun z=>by rw[Y,nT],by omega,by
    have:=d3.out;exact hx.below (by rw[this];exact w5) (by omega) (by omega)⟩
theorem Dw (v u:jB)(s t:List It)(w:iP)(h:Is w v s)(S:Is w u t)(Q:aX s=true)(J:aX t=true)(D:aJ s<=1200000)(B:aJ t<=1200000):
  mO gX 147 #[v,u] w fun e H=>∃o:jB,e=.returned (.tuple #[o,.bool true])/\aQ H w.heap.size o (aO bJ (eY s t))/\gM w.heap.size w H:=by
 have U:Hid (aJ (eY s t)<=1440000000000):=by
  have h1:=FT s t;have h2:aJ s*aJ t<=1200000*1200000:=Int.mul_le_mul D B (eN t) (by omega)
  show _<=_;omega
 go_enter Tryz.func147,Tryz.ntmps147;go_wp2_with fail;refine (Gs v u s t w h S Q J D B).mono ?_;rintro e w1 ⟨b,M,rfl,-,R,G,V,A⟩;have I:=A.size;go_wp2_with fail;refine (E9 b M (eY s t) _ R G (by omega) (by have:=U.out;omega)).mono ?_;rintro e O ⟨o,rfl,a,L⟩;have T:Hid (aQ O w1.heap.size o (aO bJ (eY s t))):=a;clear a;go_wp2_with fail;refine jO (by simp[results,Tryz.results147,go_sem];try rfl) rfl ?_;exact⟨_,rfl,cW T.out I,aG A L⟩
end Go.Proofs.YtbdpcngcbnoioaaGreatDoor
