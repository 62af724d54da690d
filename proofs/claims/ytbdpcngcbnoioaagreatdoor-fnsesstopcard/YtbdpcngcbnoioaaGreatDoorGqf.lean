import Derived.Test.YtbdpcngcbnoioaaGreatDoorGqe
set_option maxRecDepth 100000
set_option maxHeartbeats 32000000
namespace Go.Proofs.YtbdpcngcbnoioaaGreatDoor
open Go.RowKit Go.Shelf
open Go.RowKit.Below renaming heap_setCell->fM,refl->fQ
open Go renaming Value->gD,World->gM,bodyPost_ret->gQ,Calls->gX
open Go.RowKit renaming Below->iM
open _root_.List renaming mem_of_getElem?->iP,mem_singleton->jB,length_append->jO,mem_append->mO,getD_eq_getElem?_getD->nA,getElem?_eq_getElem->nB,not_mem_nil->nT,cons->nX,mem_cons->oU
open Go.Proofs.Tryz renaming results125->oW,prog->pU,ntmps125->qV,func125->sD
open _root_.Array renaming getElem?_setIfInBounds_ne->tJ,mk->tK
open _root_.Nat renaming le_refl->tL,le_trans->tM,le_of_eq->tN
open _root_.Option renaming some->xU,isSome_iff_exists->xV
open _root_.Option.some renaming inj->AP
open Go.Value renaming pointer->AW,tuple->C5
open Go.Value.pointer renaming inj->Df
open Go.Value.tuple renaming injEq->E8
open _root_.List.cons renaming injEq->Fj
open _root_.Array.mk renaming injEq->Fl
variable {W0 w:gM}{c k k2 n2 p p3 p4:Int}{e0 e1 e2 e3 f0 f1 o sd sf si sp u y1 y11 y12 y13 y14 y52 y53 z19 z20 z21 z22 z23 z24 z25 z50:gD}{i j q:Nat}
attribute [local go_sem ↓] Go.wp_at_zero Go.wp_at_succ
def Pd (s:SS)(i:Int)(l:List Rw)(w:gM)(e:Ending)(w':gM):Prop:=
 (∃s',sW s i l=some s'/\∃sp si sf sd,e=.returned (.tuple #[sv s.t.k s.t.n sp si sf sd,.bool true])/\jG w' (fun z=>w.heap.size+2<=z) sp si sf sd s'/\iM w.heap.size w w') \/
 (sW s i l=none/\∃sp si sf sd,e=.returned (.tuple #[sv 0 0 sp si sf sd,.bool false])/\jG w' (fun z=>w.heap.size+2<=z) sp si sf sd zeroS/\iM w.heap.size w w')
theorem zH {s:SS}{i:Int}{l:List Rw}(h:(dI s).isSome=false\/cG i 0 1=false\/bH l=false\/aV s.f l≠[]):sW s i l=none:=by
 unfold sW
 rcases h with h|h|h|h<;>simp[h]
theorem Pw {s:SS}{i:Int}{l:List Rw}(h1:(dI s).isSome=true)(h2:cG i 0 1=true)(h3:bH l=true)(h4:aV s.f l=[]):sW s i l=if (dI ⟨s.t,kL s.K i.toNat l,s.f,s.d⟩).isSome then some ⟨s.t,kL s.K i.toNat l,s.f,s.d⟩ else none:=by
 unfold sW;simp[h1,h2,h3,h4]
theorem NF {s:SS}{l:List Rw}(A:j<s.K.length)(h:(dI ⟨s.t,kL s.K j l,s.f,s.d⟩).isSome=true):bH (aO aW (s.K.getD j []++l))=true:=by
 obtain⟨r,hr⟩:=xV.1 h;obtain⟨_,h2,_⟩:=fW.1 hr;obtain⟨a,b,e,_,ha,D,_⟩:=nH h2;have hm:aO aW (s.K.getD j []++l)∈kL s.K j l:=by
  unfold kL;exact List.mem_iff_getElem.2 ⟨j,by simpa using A,by simp⟩
 simp only at e;rw[e]at hm;simp only[oU,nT,or_false]at hm
 rcases hm with h|h<;>(rw[h];assumption)
theorem rZ {V:gM}{gI B B':Nat}{cc:Array gD}{v:gD}{l:List Rw}(s:Bk w gI cc 28)(h:aC w B' v l)(A:B<=B')(a:∀z,B<=z->z≠gI->z<w.heap.size->V.heap[z]?=w.heap[z]?):aC V B' v l:=
 fB h fun q e=>a q (by have:=bU h q e;omega) (by
  obtain⟨d,hd⟩:=iQ h e;exact bK hd s (by decide)) (oT h q e)
theorem Q3 {V:gM}{gI M B B':Nat}{cc:Array gD}{vs:List gD}{K:List (List Rw)}{S l:List Rw}(hK:K.length=2)(hj:j<2)(hq:2<=M)(hm:M<=maxLen)(I:Bk w gI cc 28)(hc:∀(k:Nat)(u:gD),vs[k]?=some u->cc[k]?=some u)(A:j7 w B vs K)(hu:aC w B' u S)(hB:B<=B')(hl:S.length<=2000)(hS:aO aW (K.getD j []++l)=S)(hV:V.heap[gI]?=(w.setCell ⟨gI,j,none⟩ u).heap[gI]?)(O:∀z,B<=z->z≠gI->z<w.heap.size->V.heap[z]?=w.heap[z]?):eS V (.slice (some ⟨gI,0,none⟩) K.length M) (kL K j l):=by
 obtain⟨s,a,rfl⟩:=rJ hK;obtain⟨H,D,rfl⟩:=rJ (show vs.length=2 by rw[A.1];rfl);have e0:=hc 0 H rfl;have e1:=hc 1 D rfl;have hz:1<cc.size:=(Array.getElem?_eq_some_iff.1 e1).1;have o0:=rZ I (A.2.1 0 H s rfl rfl) (tL _) O;have o1:=rZ I (A.2.1 1 D a rfl rfl) (tL _) O;have U:=rZ I hu hB O;have l0:=A.2.2 s (by simp);have l1:=A.2.2 a (by simp);have J:Bk V gI (cc.setIfInBounds j u) 28:=by unfold Bk;rw[hV];exact I.set j u
 have hs:(cc.setIfInBounds j u)[j]?=some u:=Array.getElem?_setIfInBounds_self_of_lt (by omega);have Z:j≠0->(cc.setIfInBounds j u)[0]?=some H:=fun h=>by rw[tJ h];exact e0
 have Y:j≠1->(cc.setIfInBounds j u)[1]?=some D:=fun h=>by rw[tJ h];exact e1
 obtain rfl|rfl:j=0\/j=1:=by omega
 ·have R:kL [s,a] 0 l=[S,a]:=by unfold kL;rw[hS];rfl
  rw[R];exact eS.eu (v:=u) (v':=D) (J.cell hs) (J.cell (Y (by decide))) (aC.rs U (by omega)) (aC.rs o1 (by omega)) hq hm
 ·have R:kL [s,a] 1 l=[s,S]:=by unfold kL;rw[hS];rfl
  rw[R];exact eS.eu (v:=H) (v':=u) (J.cell (Z (by decide))) (J.cell hs) (aC.rs o0 (by omega)) (aC.rs U (by omega)) hq hm
theorem CV {s:SS}{lv:gD}{l:List Rw}(i:Int)(h:gE w sp si sf sd s)(hl:Rs w lv l):
  gX pU 125 #[sv s.t.k s.t.n sp si sf sd,.int .i64 i,lv] w (Pd s i l w):=by
 obtain⟨a0,c0,a1,c1,a2,c2,a3,c3,rfl,rfl,rfl,rfl⟩:=h.sl;obtain⟨al,cl,rfl,-,-,rA,-⟩:=Rs.open hl;have bA:Bk ((w.alloc (.cells (sc s.t.k s.t.n (.slice a0 s.t.len c0) (.slice a1 s.K.length c1) (.slice a2 s.f.length c2) (.slice a3 s.d.length c3)) 30)).alloc (.cells #[.int .i64 0,.int .i64 0,.slice none 0 0,.slice none 0 0,.slice none 0 0,.slice none 0 0] 30)) w.heap.size (sc s.t.k s.t.n (.slice a0 s.t.len c0) (.slice a1 s.K.length c1) (.slice a2 s.f.length c2) (.slice a3 s.d.length c3)) 30:=(Bk.new _ _ rfl).alloc _;have bR:Bk ((w.alloc (.cells (sc s.t.k s.t.n (.slice a0 s.t.len c0) (.slice a1 s.K.length c1) (.slice a2 s.f.length c2) (.slice a3 s.d.length c3)) 30)).alloc (.cells #[.int .i64 0,.int .i64 0,.slice none 0 0,.slice none 0 0,.slice none 0 0,.slice none 0 0] 30)) (w.heap.size+1) #[.int .i64 0,.int .i64 0,.slice none 0 0,.slice none 0 0,.slice none 0 0,.slice none 0 0] 30:=Bk.new _ _ (by simp);have v3:iM w.heap.size w ((w.alloc (.cells (sc s.t.k s.t.n (.slice a0 s.t.len c0) (.slice a1 s.K.length c1) (.slice a2 s.f.length c2) (.slice a3 s.d.length c3)) 30)).alloc (.cells #[.int .i64 0,.int .i64 0,.slice none 0 0,.slice none 0 0,.slice none 0 0,.slice none 0 0] 30)):=aH (aH (fQ _ _) _) _;have hS:=h.keep v3;have hL:=hl.keep v3;obtain⟨x0,x1,x2,x3,x4,x5⟩:=bA.ae;clear h hl;cases v5:(dI s).isSome
 ·have HN:Hid (sW s i l=none):=zH (.inl v5);go_enter sD,qV;go_wp2_with fail;generalize ((w.alloc (.cells (sc s.t.k s.t.n (.slice a0 s.t.len c0) (.slice a1 s.K.length c1) (.slice a2 s.f.length c2) (.slice a3 s.d.length c3)) 30)).alloc (.cells #[.int .i64 0,.int .i64 0,.slice none 0 0,.slice none 0 0,.slice none 0 0,.slice none 0 0] 30))=W0 at*;refine (dC v5 hS).mono ?_;rintro e w1 ⟨rfl,Y⟩;have y8:=bR.keep Y;have v1:=aG v3 Y;clear x0 x1 x2 x3 x4 x5 bA bR v3 Y;have d7:=y8.free 0;have O:=y8.set 0 (.int .i64 0);have d6:=O.free 1;have M:=O.set 1 (.int .i64 0);have d5:=M.free 2;have J:=M.set 2 (.slice none 0 0);have d4:=J.free 3;have I:=J.set 3 (.slice none 0 0);have d3:=I.free 4;have H:=I.set 4 (.slice none 0 0);have d0:=H.free 5;have R:=H.set 5 (.slice none 0 0);have sN:Bk ((((((w1.setCell ⟨w.heap.size+1,0,none⟩ (.int .i64 0)).setCell ⟨w.heap.size+1,1,none⟩ (.int .i64 0)).setCell ⟨w.heap.size+1,2,none⟩ (.slice none 0 0)).setCell ⟨w.heap.size+1,3,none⟩ (.slice none 0 0)).setCell ⟨w.heap.size+1,4,none⟩ (.slice none 0 0)).setCell ⟨w.heap.size+1,5,none⟩ (.slice none 0 0)) (w.heap.size+1) #[.int .i64 0,.int .i64 0,.slice none 0 0,.slice none 0 0,.slice none 0 0,.slice none 0 0] 30:=R;obtain⟨c4,b9,b7,b6,b5,b4⟩:=y8.ae;obtain⟨z7,z5,z4,z3,z1,z0⟩:=sN.ae;have U:∀z,z≠w.heap.size+1->((((((w1.setCell ⟨w.heap.size+1,0,none⟩ (.int .i64 0)).setCell ⟨w.heap.size+1,1,none⟩ (.int .i64 0)).setCell ⟨w.heap.size+1,2,none⟩ (.slice none 0 0)).setCell ⟨w.heap.size+1,3,none⟩ (.slice none 0 0)).setCell ⟨w.heap.size+1,4,none⟩ (.slice none 0 0)).setCell ⟨w.heap.size+1,5,none⟩ (.slice none 0 0)).heap[z]?=w1.heap[z]?:=fun z A=>(((((fM _ _ _ _ A).trans (fM _ _ _ _ A)).trans (fM _ _ _ _ A)).trans (fM _ _ _ _ A)).trans (fM _ _ _ _ A)).trans (fM _ _ _ _ A);clear O M J I H R;have v0:Hid (iM w.heap.size w ((((((w1.setCell ⟨w.heap.size+1,0,none⟩ (.int .i64 0)).setCell ⟨w.heap.size+1,1,none⟩ (.int .i64 0)).setCell ⟨w.heap.size+1,2,none⟩ (.slice none 0 0)).setCell ⟨w.heap.size+1,3,none⟩ (.slice none 0 0)).setCell ⟨w.heap.size+1,4,none⟩ (.slice none 0 0)).setCell ⟨w.heap.size+1,5,none⟩ (.slice none 0 0))):=((((((v1.setCell (by simp) _).setCell (by simp) _).setCell (by simp) _).setCell (by simp) _).setCell (by simp) _).setCell (by simp) _);clear U sN;go_wp2_with fail;refine gQ (v:= .tuple #[sv 0 0 dM dM dM dM,.bool false]) (by simp[results,oW,go_sem,z7,z5,z4,z3,z1,z0];try rfl) rfl ?_;exact .inr ⟨HN.out,_,_,_,_,rfl,fun V _=>m8 V,v0.out⟩
 cases hi:cG i 0 1
 ·have HN:Hid (sW s i l=none):=zH (.inr (.inl hi));go_enter sD,qV;go_wp2_with fail;generalize ((w.alloc (.cells (sc s.t.k s.t.n (.slice a0 s.t.len c0) (.slice a1 s.K.length c1) (.slice a2 s.f.length c2) (.slice a3 s.d.length c3)) 30)).alloc (.cells #[.int .i64 0,.int .i64 0,.slice none 0 0,.slice none 0 0,.slice none 0 0,.slice none 0 0] 30))=W0 at*;refine (dC v5 hS).mono ?_;rintro e w1 ⟨rfl,Y⟩;have y8:=bR.keep Y;have v1:=aG v3 Y;clear x0 x1 x2 x3 x4 x5 bA bR v3 Y;go_wp2_with fail;refine (qI hi _).mono ?_;rintro e b3 ⟨rfl,rfl⟩;clear hi v5 hS hL;have d7:=y8.free 0;have O:=y8.set 0 (.int .i64 0);have d6:=O.free 1;have M:=O.set 1 (.int .i64 0);have d5:=M.free 2;have J:=M.set 2 (.slice none 0 0);have d4:=J.free 3;have I:=J.set 3 (.slice none 0 0);have d3:=I.free 4;have H:=I.set 4 (.slice none 0 0);have d0:=H.free 5;have R:=H.set 5 (.slice none 0 0);have sN:Bk ((((((b3.setCell ⟨w.heap.size+1,0,none⟩ (.int .i64 0)).setCell ⟨w.heap.size+1,1,none⟩ (.int .i64 0)).setCell ⟨w.heap.size+1,2,none⟩ (.slice none 0 0)).setCell ⟨w.heap.size+1,3,none⟩ (.slice none 0 0)).setCell ⟨w.heap.size+1,4,none⟩ (.slice none 0 0)).setCell ⟨w.heap.size+1,5,none⟩ (.slice none 0 0)) (w.heap.size+1) #[.int .i64 0,.int .i64 0,.slice none 0 0,.slice none 0 0,.slice none 0 0,.slice none 0 0] 30:=R;obtain⟨c4,b9,b7,b6,b5,b4⟩:=y8.ae;obtain⟨z7,z5,z4,z3,z1,z0⟩:=sN.ae;have U:∀z,z≠w.heap.size+1->((((((b3.setCell ⟨w.heap.size+1,0,none⟩ (.int .i64 0)).setCell ⟨w.heap.size+1,1,none⟩ (.int .i64 0)).setCell ⟨w.heap.size+1,2,none⟩ (.slice none 0 0)).setCell ⟨w.heap.size+1,3,none⟩ (.slice none 0 0)).setCell ⟨w.heap.size+1,4,none⟩ (.slice none 0 0)).setCell ⟨w.heap.size+1,5,none⟩ (.slice none 0 0)).heap[z]?=b3.heap[z]?:=fun z A=>(((((fM _ _ _ _ A).trans (fM _ _ _ _ A)).trans (fM _ _ _ _ A)).trans (fM _ _ _ _ A)).trans (fM _ _ _ _ A)).trans (fM _ _ _ _ A);clear O M J I H R;have v0:Hid (iM w.heap.size w ((((((b3.setCell ⟨w.heap.size+1,0,none⟩ (.int .i64 0)).setCell ⟨w.heap.size+1,1,none⟩ (.int .i64 0)).setCell ⟨w.heap.size+1,2,none⟩ (.slice none 0 0)).setCell ⟨w.heap.size+1,3,none⟩ (.slice none 0 0)).setCell ⟨w.heap.size+1,4,none⟩ (.slice none 0 0)).setCell ⟨w.heap.size+1,5,none⟩ (.slice none 0 0))):=((((((v1.setCell (by simp) _).setCell (by simp) _).setCell (by simp) _).setCell (by simp) _).setCell (by simp) _).setCell (by simp) _);clear U sN;go_wp2_with fail;refine gQ (v:= .tuple #[sv 0 0 dM dM dM dM,.bool false]) (by simp[results,oW,go_sem,z7,z5,z4,z3,z1,z0];try rfl) rfl ?_;exact .inr ⟨HN.out,_,_,_,_,rfl,fun V _=>m8 V,v0.out⟩
 cases hk:bH l
 ·have HN:Hid (sW s i l=none):=zH (.inr (.inr (.inl hk)));go_enter sD,qV;go_wp2_with fail;generalize ((w.alloc (.cells (sc s.t.k s.t.n (.slice a0 s.t.len c0) (.slice a1 s.K.length c1) (.slice a2 s.f.length c2) (.slice a3 s.d.length c3)) 30)).alloc (.cells #[.int .i64 0,.int .i64 0,.slice none 0 0,.slice none 0 0,.slice none 0 0,.slice none 0 0] 30))=W0 at*;refine (dC v5 hS).mono ?_;rintro e w0 ⟨rfl,Y⟩;have g3:=bR.keep Y;have b0:=aG v3 Y;have g1:=hL.keep Y;clear x0 x1 x2 x3 x4 x5 bA bR v3 Y;go_wp2_with fail;refine (qI hi _).mono ?_;rintro e b3 ⟨rfl,rfl⟩;go_wp2_with fail;refine (kB hk g1).mono ?_;rintro e w1 ⟨rfl,x9⟩;have y8:=g3.keep x9;have v1:=aG b0 x9;clear g3 b0 x9;have d7:=y8.free 0;have O:=y8.set 0 (.int .i64 0);have d6:=O.free 1;have M:=O.set 1 (.int .i64 0);have d5:=M.free 2;have J:=M.set 2 (.slice none 0 0);have d4:=J.free 3;have I:=J.set 3 (.slice none 0 0);have d3:=I.free 4;have H:=I.set 4 (.slice none 0 0);have d0:=H.free 5;have R:=H.set 5 (.slice none 0 0);have sN:Bk ((((((w1.setCell ⟨w.heap.size+1,0,none⟩ (.int .i64 0)).setCell ⟨w.heap.size+1,1,none⟩ (.int .i64 0)).setCell ⟨w.heap.size+1,2,none⟩ (.slice none 0 0)).setCell ⟨w.heap.size+1,3,none⟩ (.slice none 0 0)).setCell ⟨w.heap.size+1,4,none⟩ (.slice none 0 0)).setCell ⟨w.heap.size+1,5,none⟩ (.slice none 0 0)) (w.heap.size+1) #[.int .i64 0,.int .i64 0,.slice none 0 0,.slice none 0 0,.slice none 0 0,.slice none 0 0] 30:=R;obtain⟨c4,b9,b7,b6,b5,b4⟩:=y8.ae;obtain⟨z7,z5,z4,z3,z1,z0⟩:=sN.ae;have U:∀z,z≠w.heap.size+1->((((((w1.setCell ⟨w.heap.size+1,0,none⟩ (.int .i64 0)).setCell ⟨w.heap.size+1,1,none⟩ (.int .i64 0)).setCell ⟨w.heap.size+1,2,none⟩ (.slice none 0 0)).setCell ⟨w.heap.size+1,3,none⟩ (.slice none 0 0)).setCell ⟨w.heap.size+1,4,none⟩ (.slice none 0 0)).setCell ⟨w.heap.size+1,5,none⟩ (.slice none 0 0)).heap[z]?=w1.heap[z]?:=fun z A=>(((((fM _ _ _ _ A).trans (fM _ _ _ _ A)).trans (fM _ _ _ _ A)).trans (fM _ _ _ _ A)).trans (fM _ _ _ _ A)).trans (fM _ _ _ _ A);clear O M J I H R;have v0:Hid (iM w.heap.size w ((((((w1.setCell ⟨w.heap.size+1,0,none⟩ (.int .i64 0)).setCell ⟨w.heap.size+1,1,none⟩ (.int .i64 0)).setCell ⟨w.heap.size+1,2,none⟩ (.slice none 0 0)).setCell ⟨w.heap.size+1,3,none⟩ (.slice none 0 0)).setCell ⟨w.heap.size+1,4,none⟩ (.slice none 0 0)).setCell ⟨w.heap.size+1,5,none⟩ (.slice none 0 0))):=((((((v1.setCell (by simp) _).setCell (by simp) _).setCell (by simp) _).setCell (by simp) _).setCell (by simp) _).setCell (by simp) _);clear U sN;go_wp2_with fail;refine gQ (v:= .tuple #[sv 0 0 dM dM dM dM,.bool false]) (by simp[results,oW,go_sem,z7,z5,z4,z3,z1,z0];try rfl) rfl ?_;exact .inr ⟨HN.out,_,_,_,_,rfl,fun V _=>m8 V,v0.out⟩
 have rD:=i6 (jA hk);have rE:=lS s.f l;go_enter sD,qV;go_wp2_with fail;generalize ((w.alloc (.cells (sc s.t.k s.t.n (.slice a0 s.t.len c0) (.slice a1 s.K.length c1) (.slice a2 s.f.length c2) (.slice a3 s.d.length c3)) 30)).alloc (.cells #[.int .i64 0,.int .i64 0,.slice none 0 0,.slice none 0 0,.slice none 0 0,.slice none 0 0] 30))=W0 at*;refine (dC v5 hS).mono ?_;rintro e w0 ⟨rfl,Y⟩;have g3:=bR.keep Y;have r5:=bA.keep Y;have b0:=aG v3 Y;have g1:=hL.keep Y;have r1:=hS.keep Y;clear x0 x1 x2 x3 x4 x5 bA bR v3 Y hS hL;go_wp2_with fail;refine (qI hi _).mono ?_;rintro e b3 ⟨rfl,rfl⟩;go_wp2_with fail;refine (kB hk g1).mono ?_;rintro e w1 ⟨rfl,x9⟩;have y8:=g3.keep x9;have l8:=r5.keep x9;have v1:=aG b0 x9;have l5:=g1.keep x9;have l4:=r1.keep x9;clear g3 r5 b0 x9 g1 r1;obtain⟨x0,x1,x2,x3,x4,x5⟩:=l8.ae;go_wp2_with fail;refine (sX _ _ s.f l _ l5 l4.ts (by omega)).mono ?_;rintro e w2 ⟨o2,rfl,k1,x9⟩;have d8:=y8.keep x9;have r4:=l8.keep x9;have g9:=aG v1 x9;have r3:=l5.keep x9;have r0:=l4.keep x9;obtain⟨ao,co,rfl,-⟩:=Rs.open (aC.rs k1 (by omega));clear y8 l8 v1 x9 l5 l4 k1 x0 x1 x2 x3 x4 x5
 by_cases A:aV s.f l=[]
 case neg=>
  have HN:Hid (sW s i l=none):=zH (.inr (.inr (.inr A)));have fL:0<(aV s.f l).length:=List.length_pos_iff.2 A;have eT:(0:Int)<((aV s.f l).length:Int):=by omega
  have d7:=d8.free 0;have O:=d8.set 0 (.int .i64 0);have d6:=O.free 1;have M:=O.set 1 (.int .i64 0);have d5:=M.free 2;have J:=M.set 2 (.slice none 0 0);have d4:=J.free 3;have I:=J.set 3 (.slice none 0 0);have d3:=I.free 4;have H:=I.set 4 (.slice none 0 0);have d0:=H.free 5;have R:=H.set 5 (.slice none 0 0);have sN:Bk ((((((w2.setCell ⟨w.heap.size+1,0,none⟩ (.int .i64 0)).setCell ⟨w.heap.size+1,1,none⟩ (.int .i64 0)).setCell ⟨w.heap.size+1,2,none⟩ (.slice none 0 0)).setCell ⟨w.heap.size+1,3,none⟩ (.slice none 0 0)).setCell ⟨w.heap.size+1,4,none⟩ (.slice none 0 0)).setCell ⟨w.heap.size+1,5,none⟩ (.slice none 0 0)) (w.heap.size+1) #[.int .i64 0,.int .i64 0,.slice none 0 0,.slice none 0 0,.slice none 0 0,.slice none 0 0] 30:=R;obtain⟨c4,b9,b7,b6,b5,b4⟩:=d8.ae;obtain⟨z7,z5,z4,z3,z1,z0⟩:=sN.ae;have U:∀z,z≠w.heap.size+1->((((((w2.setCell ⟨w.heap.size+1,0,none⟩ (.int .i64 0)).setCell ⟨w.heap.size+1,1,none⟩ (.int .i64 0)).setCell ⟨w.heap.size+1,2,none⟩ (.slice none 0 0)).setCell ⟨w.heap.size+1,3,none⟩ (.slice none 0 0)).setCell ⟨w.heap.size+1,4,none⟩ (.slice none 0 0)).setCell ⟨w.heap.size+1,5,none⟩ (.slice none 0 0)).heap[z]?=w2.heap[z]?:=fun z A=>(((((fM _ _ _ _ A).trans (fM _ _ _ _ A)).trans (fM _ _ _ _ A)).trans (fM _ _ _ _ A)).trans (fM _ _ _ _ A)).trans (fM _ _ _ _ A);clear O M J I H R;have v0:Hid (iM w.heap.size w ((((((w2.setCell ⟨w.heap.size+1,0,none⟩ (.int .i64 0)).setCell ⟨w.heap.size+1,1,none⟩ (.int .i64 0)).setCell ⟨w.heap.size+1,2,none⟩ (.slice none 0 0)).setCell ⟨w.heap.size+1,3,none⟩ (.slice none 0 0)).setCell ⟨w.heap.size+1,4,none⟩ (.slice none 0 0)).setCell ⟨w.heap.size+1,5,none⟩ (.slice none 0 0))):=((((((g9.setCell (by simp) _).setCell (by simp) _).setCell (by simp) _).setCell (by simp) _).setCell (by simp) _).setCell (by simp) _);clear U sN;go_wp2_with fail;refine gQ (v:= .tuple #[sv 0 0 dM dM dM dM,.bool false]) (by simp[results,oW,go_sem,z7,z5,z4,z3,z1,z0];try rfl) rfl ?_;exact .inr ⟨HN.out,_,_,_,_,rfl,fun V _=>m8 V,v0.out⟩
 have m4:=(show Hid _ from Pw v5 hi hk A);rw[A];obtain⟨r,hr⟩:=xV.1 v5;have a7:=EK hr;have d9:Hid (s.K.length=2):=by
  show _=_
  obtain⟨_,h2,_⟩:=fW.1 hr;obtain⟨a,b,e,_⟩:=nH h2;rw[e];rfl
 have cS:Hid (∀l∈s.K,bH l=true):=by
  obtain⟨_,h2,_⟩:=fW.1 hr;obtain⟨a,b,e,_,ha,hb,_⟩:=nH h2;intro l hl;rw[e]at hl;simp only[oU,nT,or_false]at hl
  rcases hl with rfl|rfl<;>assumption
 obtain⟨x0,x1,x2,x3,x4,x5⟩:=r4.ae;go_wp2_with fail;refine (A8 r0 a7).mono ?_;rintro e D ⟨oD,oE,oI,oK,rfl,sO,g0⟩;have l6:=d8.keep g0;have k7:=aG g9 g0;have r2:=r3.keep g0;have oM:w.heap.size+2<=D.heap.size:=by have:=l6.lt;omega
 have bN:=d8.lt;have hN:=g0.size;obtain⟨p0,q0,p1,q1,p2,q2,p3,q3,rfl,rfl,rfl,rfl⟩:=(sO.ses a7).sl;obtain⟨j,rfl⟩:∃j:Nat,i=(j:Int):=⟨i.toNat,by simp[cG]at hi;omega⟩;have hj:j<s.K.length:=by have:=d9.out;simp[cG]at hi;omega
 have ij:((j:Int)<(s.K.length:Int)):=by omega
 obtain⟨vs,ov,eo⟩:=sO.ly;have m1:Hid (vs.length=2):=by show _=_;rw[eo.1,d9.out]
 obtain⟨gI,ccI,bD,bE,aS,bI,a9⟩:∃(gI:Nat)(cc:Array gD),p1=some ⟨gI,0,none⟩/\2<=q1/\q1<=maxLen/\Bk D gI cc 28/\∀(k:Nat)(u:gD),vs[k]?=some u->cc[k]?=some u:=by
  rcases fX ov xG with⟨h1,h2⟩|⟨g,rL,cc,e,_,hb,_,h5,h6,hf⟩
  ·have q4:=m1.out;rw[h2]at q4;simp at q4
  ·obtain⟨rfl,-,rfl⟩:=gD.slice.inj e;refine⟨g,cc,rfl,by have:=m1.out;have:=d9.out;omega,h6,hb,fun k u hu=>?_⟩;have aT:k<vs.length:=(List.getElem?_eq_some_iff.1 hu).1
   simpa using hf k u aT hu 0 (by omega)
 subst bD;obtain⟨kj,i3⟩:∃l,s.K[j]?=some l:=⟨_,nB hj⟩;obtain⟨uj,k3⟩:∃u,vs[j]?=some u:=⟨_,nB (by have:=m1.out;have:=d9.out;omega)⟩;have oj:=eo.2.1 j uj kj k3 i3;have gK:kj.length<=1000:=a7.2.1 kj (iP i3);have hP:bH kj=true:=cS.out kj (iP i3);have Rj:Rs D uj kj:=aC.rs oj (by omega);obtain⟨aj,cj,rfl,-⟩:=Rs.open Rj;have q5:s.K.getD j []=kj:=by rw[nA,i3];rfl
 have cI:=bI.cell (a9 j _ k3);have kI:=bI.lt;have mB:w2.heap.size<=gI:=bU ov gI rfl;have m2:Hid (qF D w2.heap.size (.slice p0 s.t.len q0) (.slice (some ⟨gI,0,none⟩) s.K.length q1) (.slice p2 s.f.length q2) (.slice p3 s.d.length q3) s):=sO;have cT:Hid (j7 D w2.heap.size vs s.K):=eo;have b8:Bk ((D.alloc (.cells (sc s.t.k s.t.n (.slice p0 s.t.len q0) (.slice (some ⟨gI,0,none⟩) s.K.length q1) (.slice p2 s.f.length q2) (.slice p3 s.d.length q3)) 30)).alloc (.cells #[] 55)) D.heap.size (sc s.t.k s.t.n (.slice p0 s.t.len q0) (.slice (some ⟨gI,0,none⟩) s.K.length q1) (.slice p2 s.f.length q2) (.slice p3 s.d.length q3)) 30:=(Bk.new _ _ rfl).alloc _;have i5:iM D.heap.size D ((D.alloc (.cells (sc s.t.k s.t.n (.slice p0 s.t.len q0) (.slice (some ⟨gI,0,none⟩) s.K.length q1) (.slice p2 s.f.length q2) (.slice p3 s.d.length q3)) 30)).alloc (.cells #[] 55)):=aH (aH (fQ _ _) _) _;have OE:aC ((D.alloc (.cells (sc s.t.k s.t.n (.slice p0 s.t.len q0) (.slice (some ⟨gI,0,none⟩) s.K.length q1) (.slice p2 s.f.length q2) (.slice p3 s.d.length q3)) 30)).alloc (.cells #[] 55)) (D.heap.size+1) (.slice (some ⟨D.heap.size+1,0,none⟩) 0 0) []:=lT (D.alloc (.cells (sc s.t.k s.t.n (.slice p0 s.t.len q0) (.slice (some ⟨gI,0,none⟩) s.K.length q1) (.slice p2 s.f.length q2) (.slice p3 s.d.length q3)) 30)) (by simp);have R5:Rs ((D.alloc (.cells (sc s.t.k s.t.n (.slice p0 s.t.len q0) (.slice (some ⟨gI,0,none⟩) s.K.length q1) (.slice p2 s.f.length q2) (.slice p3 s.d.length q3)) 30)).alloc (.cells #[] 55)) (.slice aj kj.length cj) kj:=Rj.keep i5;have c5:=cB i5 cI;obtain⟨y0,y1,y2,y3,y4,y5⟩:=b8.ae;have zE:D.heap.size+1<=((D.alloc (.cells (sc s.t.k s.t.n (.slice p0 s.t.len q0) (.slice (some ⟨gI,0,none⟩) s.K.length q1) (.slice p2 s.f.length q2) (.slice p3 s.d.length q3)) 30)).alloc (.cells #[] 55)).heap.size:=by simp
 have zF:D.heap.size<=((D.alloc (.cells (sc s.t.k s.t.n (.slice p0 s.t.len q0) (.slice (some ⟨gI,0,none⟩) s.K.length q1) (.slice p2 s.f.length q2) (.slice p3 s.d.length q3)) 30)).alloc (.cells #[] 55)).heap.size:=by omega
 have hB:Hid (Bk ((D.alloc (.cells (sc s.t.k s.t.n (.slice p0 s.t.len q0) (.slice (some ⟨gI,0,none⟩) s.K.length q1) (.slice p2 s.f.length q2) (.slice p3 s.d.length q3)) 30)).alloc (.cells #[] 55)) D.heap.size (sc s.t.k s.t.n (.slice p0 s.t.len q0) (.slice (some ⟨gI,0,none⟩) s.K.length q1) (.slice p2 s.f.length q2) (.slice p3 s.d.length q3)) 30):=b8;have cM:Hid (Rs D (.slice al l.length cl) l):=r2;have dL:Hid (Bk D gI ccI 28):=bI;have hA:Hid (∀(k:Nat)(u:gD),vs[k]?=some u->ccI[k]?=some u):=a9;clear x0 x1 x2 x3 x4 x5 r0 r4 d8 g9 r3 g0 sO ov eo oj Rj cI bI a9 r2 b8 A v5
 go_wp2_with (at_builtin;first
  | (refine oG _ rfl _ _ rfl (D.heap.size+1) (.slice (some ⟨D.heap.size+1,0,none⟩) 0 0) [] rfl OE _ kj rfl R5 (by simp;omega) zE ?_;intro v6 w6 k0 i4;have l2:iM D.heap.size D w6:=Below.aU i5 i4 zF (fun z e=>by have:=nO e;omega);have a4:aC w6 (D.heap.size+1) v6 kj:=k0;have R6:=cM.out.keep l2;have p9:D.heap.size+1<=w6.heap.size:=tM zE i4.size)
  | (refine oG _ rfl _ _ rfl (D.heap.size+1) v6 kj rfl a4 _ l rfl R6 (by omega) p9 ?_;intro v7 w7 j5 k5;have l1:iM D.heap.size D w7:=Below.aU l2 k5 (by omega) (fun z e=>by have:=bU a4 z e;omega);have R7:=aC.rs j5 (by simp;omega)))
 refine (kY _ (kj++l) _ R7 (by simp;omega) (by rw[cV];have:=mF (jA hP);have:=mF (jA hk);omega)).mono ?_;rintro e w8 ⟨o8,rfl,e4,l0⟩;have aL:=gP aW (kj++l);have hO:(aO aW (kj++l)).length<=2000:=by simp at aL;omega
 obtain⟨a8,c8,rfl,-⟩:=Rs.open (aC.rs e4 (by omega));have i0:iM D.heap.size D w8:=aG l1 l0;have l7:Bk w8 D.heap.size (sc s.t.k s.t.n (.slice p0 s.t.len q0) (.slice (some ⟨gI,0,none⟩) s.K.length q1) (.slice p2 s.f.length q2) (.slice p3 s.d.length q3)) 30:=by
  have e6:Bk w6 D.heap.size (sc s.t.k s.t.n (.slice p0 s.t.len q0) (.slice (some ⟨gI,0,none⟩) s.K.length q1) (.slice p2 s.f.length q2) (.slice p3 s.d.length q3)) 30:=hB.out.aU i4 (fun z e=>by have:=nO e;omega);exact (e6.aU k5 (fun z e=>by have:=bU a4 z e;omega)).keep l0
 have R8:Rs w8 (.slice a8 (aO aW (kj++l)).length c8) (aO aW (kj++l)):=aC.rs e4 (by omega);have i9:=l6.keep i0;have e7:=aG k7 i0;have xE:Hid (aC w8 w7.heap.size (.slice a8 (aO aW (kj++l)).length c8) (aO aW (kj++l))):=e4;have cA:Hid (D.heap.size<=w7.heap.size):=l1.size;have cF:Hid (w2.heap.size<=D.heap.size):=hN;clear OE R5 c5 y0 y1 y2 y3 y4 y5 zE zF i5 hB i4 k5 k0 a4 j5 R6 R7 l2 l1 l0 e4 l6 k7 p9;generalize l3:aO aW (kj++l)=S at*;cases k4:bH S
 ·have HN:Hid (sW s (j:Int) l=none):=by
   show _=_
   rw[m4.out];rw[if_neg];intro h';have:=NF (by simpa using hj) h';simp only[Int.toNat_natCast,q5,l3,k4]at this;cases this
  go_wp2_with fail;refine (kB k4 R8).mono ?_;rintro e Z ⟨rfl,v2⟩;have b1:=i9.keep v2;have e5:=aG e7 v2;clear i9 e7 v2 l7;have d7:=b1.free 0;have O:=b1.set 0 (.int .i64 0);have d6:=O.free 1;have M:=O.set 1 (.int .i64 0);have d5:=M.free 2;have J:=M.set 2 (.slice none 0 0);have d4:=J.free 3;have I:=J.set 3 (.slice none 0 0);have d3:=I.free 4;have H:=I.set 4 (.slice none 0 0);have d0:=H.free 5;have R:=H.set 5 (.slice none 0 0);have sN:Bk ((((((Z.setCell ⟨w.heap.size+1,0,none⟩ (.int .i64 0)).setCell ⟨w.heap.size+1,1,none⟩ (.int .i64 0)).setCell ⟨w.heap.size+1,2,none⟩ (.slice none 0 0)).setCell ⟨w.heap.size+1,3,none⟩ (.slice none 0 0)).setCell ⟨w.heap.size+1,4,none⟩ (.slice none 0 0)).setCell ⟨w.heap.size+1,5,none⟩ (.slice none 0 0)) (w.heap.size+1) #[.int .i64 0,.int .i64 0,.slice none 0 0,.slice none 0 0,.slice none 0 0,.slice none 0 0] 30:=R;obtain⟨c4,b9,b7,b6,b5,b4⟩:=b1.ae;obtain⟨z7,z5,z4,z3,z1,z0⟩:=sN.ae;have U:∀z,z≠w.heap.size+1->((((((Z.setCell ⟨w.heap.size+1,0,none⟩ (.int .i64 0)).setCell ⟨w.heap.size+1,1,none⟩ (.int .i64 0)).setCell ⟨w.heap.size+1,2,none⟩ (.slice none 0 0)).setCell ⟨w.heap.size+1,3,none⟩ (.slice none 0 0)).setCell ⟨w.heap.size+1,4,none⟩ (.slice none 0 0)).setCell ⟨w.heap.size+1,5,none⟩ (.slice none 0 0)).heap[z]?=Z.heap[z]?:=fun z A=>(((((fM _ _ _ _ A).trans (fM _ _ _ _ A)).trans (fM _ _ _ _ A)).trans (fM _ _ _ _ A)).trans (fM _ _ _ _ A)).trans (fM _ _ _ _ A);clear O M J I H R;have v0:Hid (iM w.heap.size w ((((((Z.setCell ⟨w.heap.size+1,0,none⟩ (.int .i64 0)).setCell ⟨w.heap.size+1,1,none⟩ (.int .i64 0)).setCell ⟨w.heap.size+1,2,none⟩ (.slice none 0 0)).setCell ⟨w.heap.size+1,3,none⟩ (.slice none 0 0)).setCell ⟨w.heap.size+1,4,none⟩ (.slice none 0 0)).setCell ⟨w.heap.size+1,5,none⟩ (.slice none 0 0))):=((((((e5.setCell (by simp) _).setCell (by simp) _).setCell (by simp) _).setCell (by simp) _).setCell (by simp) _).setCell (by simp) _);clear U sN;go_wp2_with fail;refine gQ (v:= .tuple #[sv 0 0 dM dM dM dM,.bool false]) (by simp[results,oW,go_sem,z7,z5,z4,z3,z1,z0];try rfl) rfl ?_;exact .inr ⟨HN.out,_,_,_,_,rfl,fun V _=>m8 V,v0.out⟩
 ·go_wp2_with fail;refine (kB k4 R8).mono ?_;rintro e Z ⟨rfl,v2⟩;have b1:=i9.keep v2;have e5:=aG e7 v2;have j1:=l7.keep v2;have v8:iM D.heap.size D Z:=aG i0 v2;have b2:=dL.out.keep v8;have j4:aC Z w7.heap.size (.slice a8 S.length c8) S:=cC xE.out v2;obtain⟨y0,y1,y2,y3,y4,y5⟩:=j1.ae;have fI:=b2.free j;have hR:=b2.lt;have a6:∀z,z≠gI->(Z.setCell ⟨gI,j,none⟩ (.slice a8 S.length c8)).heap[z]?=Z.heap[z]?:=fun z A=>fM _ _ _ _ A;have hne:∀{z:Nat}{c:Array gD}{T:TypeId},Bk Z z c T->T≠28->z≠gI:=fun h1 h2=>bK h1 b2 h2;have r7:Hid (∀V:gM,V.heap[gI]?=(Z.setCell ⟨gI,j,none⟩ (.slice a8 S.length c8)).heap[gI]?->(∀z,w2.heap.size<=z->z≠gI->z<Z.heap.size->V.heap[z]?=Z.heap[z]?)->gE V (.slice p0 s.t.len q0) (.slice (some ⟨gI,0,none⟩) s.K.length q1) (.slice p2 s.f.length q2) (.slice p3 s.d.length q3) ⟨s.t,kL s.K j l,s.f,s.d⟩):=by
   intro V hV hv;have i2:bW Z w2.heap.size (.slice p2 s.f.length q2) s.f:=cC m2.out.ts v8;have wP:aC Z w2.heap.size (.slice p3 s.d.length q3) s.d:=cC m2.out.rs v8;refine⟨((m2.out.kd.keep v8).move (q:=fun _=>True) fun g hg hl=>⟨trivial,hv g hg.1 (fun e=>hg.2 (by rw[e];rfl)) hl⟩).kd fun g _=>Nat.zero_le _,Q3 d9.out (by have:=d9.out;omega) bE aS b2 hA.out (cT.out.keep v8) j4 (by have:=cA.out;have:=cF.out;omega) hO (by rw[q5];exact l3) hV hv,bW.ts (fB i2 fun z e=>hv z (bU i2 z e) ?_ (oT i2 z e)) (by have:=a7.2.2.1;show s.f.length<=2097152;omega),aC.rs (rZ b2 wP (tL _) hv) (by have:=a7.2.2.2;show s.d.length<=2097152;omega)⟩;obtain⟨d,hd⟩:=n9 i2 e;exact hne hd (by decide)
  have hY:Hid (∀z,z≠gI->(Z.setCell ⟨gI,j,none⟩ (.slice a8 S.length c8)).heap[z]?=Z.heap[z]?):=a6;have m0:Hid ((Z.setCell ⟨gI,j,none⟩ (.slice a8 S.length c8)).heap.size=Z.heap.size):=by show _=_;simp
  have f3:Bk (Z.setCell ⟨gI,j,none⟩ (.slice a8 S.length c8)) D.heap.size (sc s.t.k s.t.n (.slice p0 s.t.len q0) (.slice (some ⟨gI,0,none⟩) s.K.length q1) (.slice p2 s.f.length q2) (.slice p3 s.d.length q3)) 30:=by unfold Bk;rw[a6 _ (hne j1 (by decide))];exact j1
  have f2:Bk (Z.setCell ⟨gI,j,none⟩ (.slice a8 S.length c8)) (w.heap.size+1) #[.int .i64 0,.int .i64 0,.slice none 0 0,.slice none 0 0,.slice none 0 0,.slice none 0 0] 30:=by unfold Bk;rw[a6 _ (hne b1 (by decide))];exact b1
  have a5:iM w.heap.size w (Z.setCell ⟨gI,j,none⟩ (.slice a8 S.length c8)):=e5.setCell (by show _<=gI;omega) _;obtain⟨t0,t1,t2,t3,t4,t5⟩:=f3.ae;have i8:∃v,Z.cell? ⟨gI,j,none⟩=some v:=⟨_,b2.cell (hA.out j _ k3)⟩;obtain⟨vI,i8⟩:=i8;have m3:Hid (gE (Z.setCell ⟨gI,j,none⟩ (.slice a8 S.length c8)) (.slice p0 s.t.len q0) (.slice (some ⟨gI,0,none⟩) s.K.length q1) (.slice p2 s.f.length q2) (.slice p3 s.d.length q3) ⟨s.t,kL s.K j l,s.f,s.d⟩):=r7.out _ rfl fun z _ h2 _=>a6 z h2;have r8:Hid (sW s (j:Int) l=if (dI ⟨s.t,kL s.K j l,s.f,s.d⟩).isSome then some ⟨s.t,kL s.K j l,s.f,s.d⟩ else none):=by
   have:=m4.out
   show _=_
   simpa using this
  clear a6 hne j1 b1 e5 b2 j4 v8 v2 l7 i9 e7 R8 m4;cases e9:(dI ⟨s.t,kL s.K j l,s.f,s.d⟩).isSome
  ·have HN:Hid (sW s (j:Int) l=none):=by show _=_;rw[r8.out,e9];rfl
   go_wp2_with fail;clear t0 t1 t2 t3 t4 t5 y0 y1 y2 y3 y4 y5 fI i8;generalize (Z.setCell ⟨gI,j,none⟩ (.slice a8 S.length c8))=l9 at*;refine (dC e9 m3.out).mono ?_;rintro e w11 ⟨rfl,y7⟩;have v4:=f2.keep y7;have e8:=aG a5 y7;clear f2 a5 y7 f3;have d7:=v4.free 0;have O:=v4.set 0 (.int .i64 0);have d6:=O.free 1;have M:=O.set 1 (.int .i64 0);have d5:=M.free 2;have J:=M.set 2 (.slice none 0 0);have d4:=J.free 3;have I:=J.set 3 (.slice none 0 0);have d3:=I.free 4;have H:=I.set 4 (.slice none 0 0);have d0:=H.free 5;have R:=H.set 5 (.slice none 0 0);have sN:Bk ((((((w11.setCell ⟨w.heap.size+1,0,none⟩ (.int .i64 0)).setCell ⟨w.heap.size+1,1,none⟩ (.int .i64 0)).setCell ⟨w.heap.size+1,2,none⟩ (.slice none 0 0)).setCell ⟨w.heap.size+1,3,none⟩ (.slice none 0 0)).setCell ⟨w.heap.size+1,4,none⟩ (.slice none 0 0)).setCell ⟨w.heap.size+1,5,none⟩ (.slice none 0 0)) (w.heap.size+1) #[.int .i64 0,.int .i64 0,.slice none 0 0,.slice none 0 0,.slice none 0 0,.slice none 0 0] 30:=R;obtain⟨c4,b9,b7,b6,b5,b4⟩:=v4.ae;obtain⟨z7,z5,z4,z3,z1,z0⟩:=sN.ae;have U:∀z,z≠w.heap.size+1->((((((w11.setCell ⟨w.heap.size+1,0,none⟩ (.int .i64 0)).setCell ⟨w.heap.size+1,1,none⟩ (.int .i64 0)).setCell ⟨w.heap.size+1,2,none⟩ (.slice none 0 0)).setCell ⟨w.heap.size+1,3,none⟩ (.slice none 0 0)).setCell ⟨w.heap.size+1,4,none⟩ (.slice none 0 0)).setCell ⟨w.heap.size+1,5,none⟩ (.slice none 0 0)).heap[z]?=w11.heap[z]?:=fun z A=>(((((fM _ _ _ _ A).trans (fM _ _ _ _ A)).trans (fM _ _ _ _ A)).trans (fM _ _ _ _ A)).trans (fM _ _ _ _ A)).trans (fM _ _ _ _ A);clear O M J I H R;have v0:Hid (iM w.heap.size w ((((((w11.setCell ⟨w.heap.size+1,0,none⟩ (.int .i64 0)).setCell ⟨w.heap.size+1,1,none⟩ (.int .i64 0)).setCell ⟨w.heap.size+1,2,none⟩ (.slice none 0 0)).setCell ⟨w.heap.size+1,3,none⟩ (.slice none 0 0)).setCell ⟨w.heap.size+1,4,none⟩ (.slice none 0 0)).setCell ⟨w.heap.size+1,5,none⟩ (.slice none 0 0))):=((((((e8.setCell (by simp) _).setCell (by simp) _).setCell (by simp) _).setCell (by simp) _).setCell (by simp) _).setCell (by simp) _);clear U sN;go_wp2_with fail;refine gQ (v:= .tuple #[sv 0 0 dM dM dM dM,.bool false]) (by simp[results,oW,go_sem,z7,z5,z4,z3,z1,z0];try rfl) rfl ?_;exact .inr ⟨HN.out,_,_,_,_,rfl,fun V _=>m8 V,v0.out⟩
  ·have HN:Hid (sW s (j:Int) l=some ⟨s.t,kL s.K j l,s.f,s.d⟩):=by show _=_;rw[r8.out,e9];rfl
   go_wp2_with fail;clear t0 t1 t2 t3 t4 t5 y0 y1 y2 y3 y4 y5 fI i8;generalize (Z.setCell ⟨gI,j,none⟩ (.slice a8 S.length c8))=l9 at*;refine (dC e9 m3.out).mono ?_;rintro e w11 ⟨rfl,y7⟩;have v4:=f2.keep y7;have hT:=f3.keep y7;have e8:=aG a5 y7;have zB:Hid (w11.heap[gI]?=l9.heap[gI]?):=y7.block gI (by rw[m0.out];exact hR);have eK:Hid (∀z,z≠gI->z<Z.heap.size->w11.heap[z]?=Z.heap[z]?):=fun z h1 h2=>(y7.block z (by rw[m0.out];exact h2)).trans (hY.out z h1);have o6:Hid (l9.heap.size<=w11.heap.size):=y7.size;have eF:Hid (w.heap.size+2<=w2.heap.size):=bN;clear f2 a5 y7 f3;obtain⟨t0,t1,t2,t3,t4,t5⟩:=hT.ae;have d7:=v4.free 0;have O:=v4.set 0 (.int .i64 s.t.k);have d6:=O.free 1;have M:=O.set 1 (.int .i64 s.t.n);have d5:=M.free 2;have J:=M.set 2 (.slice p0 s.t.len q0);have d4:=J.free 3;have I:=J.set 3 (.slice (some ⟨gI,0,none⟩) s.K.length q1);have d3:=I.free 4;have H:=I.set 4 (.slice p2 s.f.length q2);have d0:=H.free 5;have R:=H.set 5 (.slice p3 s.d.length q3);have sN:Bk ((((((w11.setCell ⟨w.heap.size+1,0,none⟩ (.int .i64 s.t.k)).setCell ⟨w.heap.size+1,1,none⟩ (.int .i64 s.t.n)).setCell ⟨w.heap.size+1,2,none⟩ (.slice p0 s.t.len q0)).setCell ⟨w.heap.size+1,3,none⟩ (.slice (some ⟨gI,0,none⟩) s.K.length q1)).setCell ⟨w.heap.size+1,4,none⟩ (.slice p2 s.f.length q2)).setCell ⟨w.heap.size+1,5,none⟩ (.slice p3 s.d.length q3)) (w.heap.size+1) #[.int .i64 s.t.k,.int .i64 s.t.n,.slice p0 s.t.len q0,.slice (some ⟨gI,0,none⟩) s.K.length q1,.slice p2 s.f.length q2,.slice p3 s.d.length q3] 30:=R;obtain⟨c4,b9,b7,b6,b5,b4⟩:=v4.ae;obtain⟨z7,z5,z4,z3,z1,z0⟩:=sN.ae;have U:∀z,z≠w.heap.size+1->((((((w11.setCell ⟨w.heap.size+1,0,none⟩ (.int .i64 s.t.k)).setCell ⟨w.heap.size+1,1,none⟩ (.int .i64 s.t.n)).setCell ⟨w.heap.size+1,2,none⟩ (.slice p0 s.t.len q0)).setCell ⟨w.heap.size+1,3,none⟩ (.slice (some ⟨gI,0,none⟩) s.K.length q1)).setCell ⟨w.heap.size+1,4,none⟩ (.slice p2 s.f.length q2)).setCell ⟨w.heap.size+1,5,none⟩ (.slice p3 s.d.length q3)).heap[z]?=w11.heap[z]?:=fun z A=>(((((fM _ _ _ _ A).trans (fM _ _ _ _ A)).trans (fM _ _ _ _ A)).trans (fM _ _ _ _ A)).trans (fM _ _ _ _ A)).trans (fM _ _ _ _ A);clear O M J I H R;have hD:=o6.out;have zW:((((((w11.setCell ⟨w.heap.size+1,0,none⟩ (.int .i64 s.t.k)).setCell ⟨w.heap.size+1,1,none⟩ (.int .i64 s.t.n)).setCell ⟨w.heap.size+1,2,none⟩ (.slice p0 s.t.len q0)).setCell ⟨w.heap.size+1,3,none⟩ (.slice (some ⟨gI,0,none⟩) s.K.length q1)).setCell ⟨w.heap.size+1,4,none⟩ (.slice p2 s.f.length q2)).setCell ⟨w.heap.size+1,5,none⟩ (.slice p3 s.d.length q3)).heap.size=w11.heap.size:=by simp
   have cL:Hid (jG ((((((w11.setCell ⟨w.heap.size+1,0,none⟩ (.int .i64 s.t.k)).setCell ⟨w.heap.size+1,1,none⟩ (.int .i64 s.t.n)).setCell ⟨w.heap.size+1,2,none⟩ (.slice p0 s.t.len q0)).setCell ⟨w.heap.size+1,3,none⟩ (.slice (some ⟨gI,0,none⟩) s.K.length q1)).setCell ⟨w.heap.size+1,4,none⟩ (.slice p2 s.f.length q2)).setCell ⟨w.heap.size+1,5,none⟩ (.slice p3 s.d.length q3)) (fun z=>w.heap.size+2<=z) (.slice p0 s.t.len q0) (.slice (some ⟨gI,0,none⟩) s.K.length q1) (.slice p2 s.f.length q2) (.slice p3 s.d.length q3) ⟨s.t,kL s.K j l,s.f,s.d⟩):=by
    intro V hV;have oV:=eF.out;have oL:=m0.out;have q6:∀z,w.heap.size+2<=z->z<w11.heap.size->V.heap[z]?=w11.heap[z]?:=fun z h1 h2=>(hV z h1 (by rw[zW];exact h2)).trans (U z (by omega));exact r7.out V ((q6 gI (by omega) (by omega)).trans zB.out) fun z h1 h2 h3=>(q6 z (by omega) (by omega)).trans (eK.out z h2 h3)
   have v0:Hid (iM w.heap.size w ((((((w11.setCell ⟨w.heap.size+1,0,none⟩ (.int .i64 s.t.k)).setCell ⟨w.heap.size+1,1,none⟩ (.int .i64 s.t.n)).setCell ⟨w.heap.size+1,2,none⟩ (.slice p0 s.t.len q0)).setCell ⟨w.heap.size+1,3,none⟩ (.slice (some ⟨gI,0,none⟩) s.K.length q1)).setCell ⟨w.heap.size+1,4,none⟩ (.slice p2 s.f.length q2)).setCell ⟨w.heap.size+1,5,none⟩ (.slice p3 s.d.length q3))):=((((((e8.setCell (by simp) _).setCell (by simp) _).setCell (by simp) _).setCell (by simp) _).setCell (by simp) _).setCell (by simp) _);clear U sN hD zW;go_wp2_with fail;refine gQ (v:= .tuple #[sv s.t.k s.t.n (.slice p0 s.t.len q0) (.slice (some ⟨gI,0,none⟩) s.K.length q1) (.slice p2 s.f.length q2) (.slice p3 s.d.length q3),.bool true]) (by simp[results,oW,go_sem,z7,z5,z4,z3,z1,z0];try rfl) rfl ?_;exact .inl ⟨_,HN.out,_,_,_,_,rfl,cL.out,v0.out⟩
attribute [local go_sem ↓] Go.wp_at_zero Go.wp_at_succ
theorem Rd.aU {B:Nat}{A:gM}{g:Nat}{v:gD}{n:Nat}{s:Option Nat}(h:Rd B w g v n p)(hg:w.grownBy A s)(hr:∀q,s=some q->g<q):Rd B A g v n p:=by
 refine⟨?_,?_,h.few,h.here,tM h.size hg.size⟩
 ·unfold Bk;rw[hg.block g h.blk.lt (fun e=>by have:=hr g e.symm;omega)];exact h.blk
 ·obtain⟨a,I,rfl,h1,h2,h3⟩:=h.bytes;refine⟨a,I,rfl,h1,h2,fun i hi=>?_⟩;obtain⟨b,off,z,rfl,H,J,h4,h5⟩:=h3 i hi;have M:=h.here;have hs:=h.size;have D:=iM.grown (fQ B w) hg h.size (fun k e=>by have:=hr k e;omega);exact⟨b,off,z,rfl,H,by rw[D.cell (p:=⟨b,_,none⟩) H];exact J,h4,h5⟩
theorem Bx.dx {g:Nat}{a:gM}(h:Bx g a w){q:Addr}(hq:a.heap.size<=q.block)(u:gD):Bx g a (w.setCell q u):=
 ⟨h.os,h.tape,h.output,by simpa[gM.setCell]using h.size,fun k s hg=>by rw[fM _ _ _ _ (by omega)];exact h.block k s hg⟩
def vQ (r:Rw):Prop:=dG r=true
theorem Mw {K V A B a B' D:Int}(h:vQ (((K,V),(A,B)),D))(s:bM a B'=true):vQ (((K,V),(a,B')),D):=by
 unfold vQ at h ⊢;simp only[dG,Bool.and_eq_true]at h ⊢
 simp_all
theorem Ng {l m:List Rw}{s:Sp}{D:Int}(hr:l[j]?=some (s,D))(h:aJ m=aJ (l.take j))(s':Sp):aJ (m++[(s',D)])=aJ (l.take (j+1)):=by
 rw[List.take_add_one,hr,cV,cV,h]
 rfl
theorem Dv {B:Nat}{g:Nat}{v:gD}{n:Nat}(h:Rd B w g v n p)(hp:0<=p)(m4:p<=700000)(lv fv:gD)(l:List Rw)(F:LI)(hl:∀W,Bx g w W->Rs W lv l)(hf:∀W,Bx g w W->Ts W fv F)(a5:∀r∈l,vQ r)(l4:l.length<=10)(hF:F.length<=100):
  gX pU 126 #[.pointer (some ⟨g,0,none⟩),lv,fv] w fun e w'=>∃(o:gD)(m:List Rw),e=.returned o/\m.length=l.length/\aJ m=aJ l/\(∀r∈m,vQ r)/\aC w' w.heap.size o (jH m)/\(∃H:Int,p<=H/\H<=p+10/\Rd B w' g v n H)/\Bx g w w':=by
 have hg:=h.blk.lt;have HG:Hid (g<w.heap.size):=hg;have HL:=(show Hid (∀W,Bx g w W->Rs W lv l) from hl);have HF:=(show Hid (∀W,Bx g w W->Ts W fv F) from hf);have HS:=(show Hid (∀r∈l,vQ r) from a5);obtain⟨aL,cL,rfl,n6,g1,-⟩:=Rs.open (hl w (Bx.refl _ _));unfold maxLen at g1;obtain⟨aF,cF,rfl,-⟩:=hf w (Bx.refl _ _);have h0:=h.aa (aH (fQ _ _) (.cells #[] 55));have x0:Bx g w (w.alloc (.cells #[] 55)):=(Bx.refl _ _).alloc _;have o0:=lT w rfl;clear hl hf a5;go_enter Tryz.func126,Tryz.ntmps126;go_wp2_with fail
 go_loopw [7,8] (fun o i wr=>∃(j:Nat)(m:List Rw)(H:Int),j<=l.length/\i=.int .i64 j/\m.length=j/\aJ m=aJ (l.take j)/\(∀r∈m,vQ r)/\aC wr w.heap.size o m/\p<=H/\H<=p+j/\Rd B wr g v n H/\Bx g w wr) (fun _ i _=>l.length-(intOf i).toNat)
 case atStart=>exact⟨0,[],p,by omega,rfl,rfl,by simp,by simp,o0,by omega,by omega,h0,x0⟩
 case round=>
  clear o0 x0 h0;obtain⟨j,m,H,hj,rfl,a9,b1,v6,y6,g0,m3,hr,hx⟩:=hrel;have HO:Hid (aC wr w.heap.size u7 m):=y6;have z7:Hid (∀r∈m,vQ r):=v6;have y5:=hx.size;have i3:Hid (∀q,u7.ownBlock=some q->q<wr.heap.size):=fun q e=>oT y6 q e;have z8:Hid (m.length=j):=a9;have b9:Hid (aJ m=aJ (l.take j)):=b1;clear b1;have m5:m.length<=10:=by omega
  clear y6 v6 a9
  by_cases g4:j<l.length
  ·obtain⟨o5,o3,e,-,-,-,x5⟩:=Rs.open (HL.out wr hx);obtain⟨gr,off,K,V,A,a,D,rfl,n4,v7,c0,c1,c2,c3,c4⟩:=x5 j g4;cases e;have z5:Hid (vQ (((K,V),(A,a)),D)):=HS.out _ (iP v7);have a1:Hid (∀s':Sp,aJ (m++[(s',D)])=aJ (l.take (j+1))):=fun s'=>Ng v7 b9.out s';have ij:(j:Int)<(l.length:Int):=by omega
   have U:Bx g w (wr.alloc (.cells #[.int .i64 K,.int .i64 V,.int .i64 A,.int .i64 a,.int .i64 D] 55)):=hx.alloc _;have v8:Rd B (wr.alloc (.cells #[.int .i64 K,.int .i64 V,.int .i64 A,.int .i64 a,.int .i64 D] 55)) g v n H:=hr.aa (aH (fQ _ _) _);have bb:Bk (wr.alloc (.cells #[.int .i64 K,.int .i64 V,.int .i64 A,.int .i64 a,.int .i64 D] 55)) wr.heap.size #[.int .i64 K,.int .i64 V,.int .i64 A,.int .i64 a,.int .i64 D] 55:=Bk.new _ _ rfl;have OB:Hid (aC (wr.alloc (.cells #[.int .i64 K,.int .i64 V,.int .i64 A,.int .i64 a,.int .i64 D] 55)) w.heap.size u7 m):=HO.out.alloc _;clear x5 v7 HO
   by_cases b6:F.length=0
   ·have g9:decide (0<F.length)=false:=by simp[b6]
    clear b6;obtain⟨z0,z1,z2,z3,z4⟩:=(bb).ag;have S:aC ((wr.alloc (.cells #[.int .i64 K,.int .i64 V,.int .i64 A,.int .i64 a,.int .i64 D] 55)).alloc (.cells #[.int .i64 K,.int .i64 V,.int .i64 A,.int .i64 a,.int .i64 D] 55)) w.heap.size u7 m:=(OB.out).alloc _;have x2:w.heap.size<=((wr.alloc (.cells #[.int .i64 K,.int .i64 V,.int .i64 A,.int .i64 a,.int .i64 D] 55)).alloc (.cells #[.int .i64 K,.int .i64 V,.int .i64 A,.int .i64 a,.int .i64 D] 55)).heap.size:=by have:=(U).size;simp;omega
    go_wp2_with (at_builtin;refine kR _ rfl _ _ rfl w.heap.size _ m rfl S _ _ _ _ _ _ rfl (Bk.new _ _ (by first|rfl|simp)) (by omega) x2 ?_;intro g5 w7 Z R J b0)
    have x3:Bx g w ((wr.alloc (.cells #[.int .i64 K,.int .i64 V,.int .i64 A,.int .i64 a,.int .i64 D] 55)).alloc (.cells #[.int .i64 K,.int .i64 V,.int .i64 A,.int .i64 a,.int .i64 D] 55)):=(U).alloc _;have Y:Bx g w Z:=x3.grown J (fun q e=>bU S q e);have x1:Rd B Z g v n H:=(Rd.aa (v8) (aH (fQ _ _) _)).aU J (fun q e=>by have:=bU S q e;have:=HG.out;omega);have x7:Hid (∀r∈m++[(((K,V),(A,a)),D)],vQ r):=fun r hr=>by
     rcases mO.1 hr with h|h
     ·exact z7.out r h
     ·rw[jB.1 h];exact z5.out
    exact⟨⟨j+1,m++[(((K,V),(A,a)),D)],H,by omega,by go_num,by rw[jO,z8.out];rfl,a1.out _,x7.out,R,by omega,by omega,x1,Y⟩,by simp[intOf];omega⟩
   have g9:decide (0<F.length)=true:=by simp;omega
   have o1:(0:Int)<(F.length:Int):=by omega
   cases v9:dA F
   ·go_wp2_with fail;generalize w1:(wr.alloc (.cells #[.int .i64 K,.int .i64 V,.int .i64 A,.int .i64 a,.int .i64 D] 55))=wb at*;refine (sQ v9 (HF.out wb U)).mono ?_;rintro e w2 ⟨rfl,s⟩;have x4:=U.trans (Bx.aD s);have y8:=v8.aa s;have b2:=bb.keep s;have O2:=cC OB.out s;clear c0 c1 c2 c3 c4 w1;obtain⟨z0,z1,z2,z3,z4⟩:=(b2).ag;have S:aC (w2.alloc (.cells #[.int .i64 K,.int .i64 V,.int .i64 A,.int .i64 a,.int .i64 D] 55)) w.heap.size u7 m:=(O2).alloc _;have x2:w.heap.size<=(w2.alloc (.cells #[.int .i64 K,.int .i64 V,.int .i64 A,.int .i64 a,.int .i64 D] 55)).heap.size:=by have:=(x4).size;simp;omega
    go_wp2_with (at_builtin;refine kR _ rfl _ _ rfl w.heap.size _ m rfl S _ _ _ _ _ _ rfl (Bk.new _ _ (by first|rfl|simp)) (by omega) x2 ?_;intro g5 w7 Z R J b0)
    have x3:Bx g w (w2.alloc (.cells #[.int .i64 K,.int .i64 V,.int .i64 A,.int .i64 a,.int .i64 D] 55)):=(x4).alloc _;have Y:Bx g w Z:=x3.grown J (fun q e=>bU S q e);have x1:Rd B Z g v n H:=(Rd.aa (y8) (aH (fQ _ _) _)).aU J (fun q e=>by have:=bU S q e;have:=HG.out;omega);have x7:Hid (∀r∈m++[(((K,V),(A,a)),D)],vQ r):=fun r hr=>by
     rcases mO.1 hr with h|h
     ·exact z7.out r h
     ·rw[jB.1 h];exact z5.out
    exact⟨⟨j+1,m++[(((K,V),(A,a)),D)],H,by omega,by go_num,by rw[jO,z8.out];rfl,a1.out _,x7.out,R,by omega,by omega,x1,Y⟩,by simp[intOf];omega⟩
   ·go_wp2_with fail;generalize w1:(wr.alloc (.cells #[.int .i64 K,.int .i64 V,.int .i64 A,.int .i64 a,.int .i64 D] 55))=wb at*;refine (sQ v9 (HF.out wb U)).mono ?_;rintro e w2 ⟨rfl,s⟩;have x4:=U.trans (Bx.aD s);have y8:=v8.aa s;have b2:=bb.keep s;have O2:Hid (aC w2 w.heap.size u7 m):=cC OB.out s;have a3:=x4.drew;have a6:Rd B w2.drew g v n H:=y8.aa (fQ _ _).drew;have bD:=b2.drew;obtain⟨y0,y1,y2,y3,y4⟩:=b2.ag;obtain⟨v0,v1,v2,v3,v4⟩:=bD.ag;clear c0 c1 c2 c3 c4 w1;have b7:B<=wr.heap.size:=hr.size;have x8:wr.heap.size≠g:=by have:=HG.out;omega
    have g8:(F.length:Int)<=1000:=by omega
    have d7:(1:Int)<=(F.length:Int):=by omega
    go_wp2_with fail
    go_region_with (first
     | (go_at_call 60;refine (pA a6 (by omega) (by omega) _ d7 g8).mono ?_;rintro e w3 ⟨kI,rfl,g6,n3,a8,y7⟩;obtain⟨I,rfl⟩:=Int.eq_ofNat_of_zero_le g6;have b3:=bD.aN y7 x8;have x9:=a3.trans y7;obtain⟨t0,t1,t2,t3,t4⟩:=b3.ag;obtain⟨o6,o4,eF,_,_,_,g7⟩:=HF.out w3 x9;obtain⟨gf,l2,i1,n5,f0,f1⟩:=g7 I (by omega);cases eF;cases i1;have b8:Hid (aC w3 w.heap.size u7 m):=oX O2.out.drew y7 HG.out)
     | (go_at_call 130;refine (n7 A a (tA F I) (tB F I) _).mono ?_;rintro e w4 ⟨rfl,x6⟩;have b4:=b3.keep x6;obtain⟨s0,s1,s2,s3,s4⟩:=b4.ag;have g2:=b4.free 2;have g3:=b4.free 3))
    all_goals
     have a4:=x9.trans (Bx.aD x6);have a7:=a8.aa x6;have O4:aC w4 w.heap.size u7 m:=cC b8.out x6;have d5:bM (tA F I) (tB F I)=true:=KC v9 (by omega);have d6:bM A a=true:=pO z5.out;have i5:Hid (vQ (((K,V),(k9 A a (tA F I) (tB F I),kA A a (tA F I) (tB F I))),D)):=Mw z5.out (Ik d6 d5);generalize k9 A a (tA F I) (tB F I)=O at*;generalize kA A a (tA F I) (tB F I)=M at*;have b5:Bk ((w4.setCell ⟨wr.heap.size,2,none⟩ (.int .i64 O)).setCell ⟨wr.heap.size,3,none⟩ (.int .i64 M)) wr.heap.size #[.int .i64 K,.int .i64 V,.int .i64 O,.int .i64 M,.int .i64 D] 55:=by simpa using (b4.set 2 (.int .i64 O)).set 3 (.int .i64 M)
     have Y:Bx g w ((w4.setCell ⟨wr.heap.size,2,none⟩ (.int .i64 O)).setCell ⟨wr.heap.size,3,none⟩ (.int .i64 M)):=(a4.dx (show w.heap.size<=wr.heap.size from y5) _).dx (show w.heap.size<=wr.heap.size from y5) _;have f9:Rd B ((w4.setCell ⟨wr.heap.size,2,none⟩ (.int .i64 O)).setCell ⟨wr.heap.size,3,none⟩ (.int .i64 M)) g v n (H+1):=(a7.apart (q:=⟨wr.heap.size,2,none⟩) (fun e=>x8 e.symm) b7 _).apart (q:=⟨wr.heap.size,3,none⟩) (fun e=>x8 e.symm) b7 _;have O5:aC ((w4.setCell ⟨wr.heap.size,2,none⟩ (.int .i64 O)).setCell ⟨wr.heap.size,3,none⟩ (.int .i64 M)) w.heap.size u7 m:=fB O4 fun q e=>by
      have:=i3.out q e;rw[fM _ _ _ _ (show q≠wr.heap.size by omega),fM _ _ _ _ (show q≠wr.heap.size by omega)]
     clear b2 b3 b4 bD x4 y7 x9 a4 a3 y8 a8 a7 a6 O2 b8 O4 y0 y1 y2 y3 y4 v0 v1 v2 v3 v4 t0 t1 t2 t3 t4 s0 s1 s2 s3 s4 g2 g3 s x6 f0 f1;generalize ((w4.setCell ⟨wr.heap.size,2,none⟩ (.int .i64 O)).setCell ⟨wr.heap.size,3,none⟩ (.int .i64 M))=Z at*;obtain⟨z0,z1,z2,z3,z4⟩:=(b5).ag;have S:aC (Z.alloc (.cells #[.int .i64 K,.int .i64 V,.int .i64 O,.int .i64 M,.int .i64 D] 55)) w.heap.size u7 m:=(O5).alloc _;have x2:w.heap.size<=(Z.alloc (.cells #[.int .i64 K,.int .i64 V,.int .i64 O,.int .i64 M,.int .i64 D] 55)).heap.size:=by have:=(Y).size;simp;omega
     go_wp2_with (at_builtin;refine kR _ rfl _ _ rfl w.heap.size _ m rfl S _ _ _ _ _ _ rfl (Bk.new _ _ (by first|rfl|simp)) (by omega) x2 ?_;intro g5 w7 w6 R J b0)
     have x3:Bx g w (Z.alloc (.cells #[.int .i64 K,.int .i64 V,.int .i64 O,.int .i64 M,.int .i64 D] 55)):=(Y).alloc _;have f8:Bx g w w6:=x3.grown J (fun q e=>bU S q e);have x1:Rd B w6 g v n (H+1):=(Rd.aa (f9) (aH (fQ _ _) _)).aU J (fun q e=>by have:=bU S q e;have:=HG.out;omega);have x7:Hid (∀r∈m++[(((K,V),(O,M)),D)],vQ r):=fun r hr=>by
      rcases mO.1 hr with h|h
      ·exact z7.out r h
      ·rw[jB.1 h];exact i5.out
     exact⟨⟨j+1,m++[(((K,V),(O,M)),D)],(H+1),by omega,by go_num,by rw[jO,z8.out];rfl,a1.out _,x7.out,R,by omega,by omega,x1,f8⟩,by simp[intOf];omega⟩
  ·obtain rfl:j=l.length:=by omega
   have R1:Rs wr u7 m:=aC.rs HO.out (by omega);go_wp2_with fail;refine (uJ u7 m _ R1).mono ?_;rintro e w2 ⟨o2,rfl,v5,s⟩;have i8:Hid (aC w2 wr.heap.size o2 (jH m)):=v5;clear v5;go_wp2_with fail;go_ret;exact⟨_,m,rfl,z8.out,(by rw[b9.out,List.take_length]),z7.out,cW i8.out y5,⟨H,g0,by omega,hr.aa s⟩,hx.trans (Bx.aD s)⟩
theorem Cu (l:List Rw):aJ (jH l)<=aJ l:=by
 unfold jH;split
 ·exact Lb l
 ·exact eN l
theorem QH {l:List Rw}{n:Int}(hn:(l.length:Int)<=n)(h:∀r∈l,nR r):aJ l<=3*n:=by
 have h1:=mP (l:=l) (c:=3) fun r hr=>(h r hr).2;omega
theorem Cw (l:List Rw):(jH l).length<=l.length:=by
 unfold jH;split
 ·exact NX l
 ·simp
def fu (b:Bool)(k:Int):Int:=if b then k else 0
theorem fN {L:Array Bool}(h:i≠j):fu ((L.setIfInBounds i true).getD j false) k=fu (L.getD j false) k:=by
 simp[fu,Array.getD_eq_getD_getElem?,tJ h]
theorem sI {L:Array Bool}(h:i<L.size):fu ((L.setIfInBounds i true).getD i false) k=k:=by
 rw[gH h];rfl
theorem zG {L:Array Bool}(h:L.getD i true=false):fu (L.getD i false) k=0:=by
 have:L.getD i false=false:=by
  cases e:L.getD i false
  ·rfl
  ·exact (gN e h).elim
 rw[this];rfl
def nS (G:SS->Prop)(W:gM)(P:Nat->Prop)(x o:gD):Prop:=∃(s:SS)(sp si sf sd:gD)(ok:Bool),x=sv s.t.k s.t.n sp si sf sd/\o=.bool ok/\(ok=true->G s)/\jG W P sp si sf sd s
theorem nS.move {G:SS->Prop}{W a:gM}{P Q:Nat->Prop}{x:gD}(h:nS G W P x o)(H:∀z,P z->z<W.heap.size->Q z/\a.heap[z]?=W.heap[z]?)(hs:W.heap.size<=a.heap.size):nS G a Q x o:=by
 obtain⟨s,sp,si,sf,sd,A,h1,h2,h3,h4⟩:=h;exact⟨s,sp,si,sf,sd,A,h1,h2,h3,h4.move H hs⟩
theorem nS.wk {G:SS->Prop}{W:gM}{P Q:Nat->Prop}{x:gD}(h:nS G W P x o)(H:∀z,P z->z<W.heap.size->Q z):nS G W Q x o:=h.move (fun z a hl=>⟨H z a hl,rfl⟩) (tL _)
def Pe (B g N:Nat)(v:gD)(n:Nat)(p0 f:Int)(G:SS->Prop)(W:gM)(x o:gD):Prop:=
 ∃(q:Nat)(k2 n2:Int)(e0 e1 e2 e3:gD)(p3:Int),x=.pointer (some ⟨q,0,none⟩)/\N<=q/\Bk W q #[.int .i64 k2,.int .i64 n2,e0,e1,e2,e3] 30/\nS G W (fun z=>N<=z/\z≠q) (sv k2 n2 e0 e1 e2 e3) o/\p0<=p3/\p3<=p0+f/\Rd B W g v n p3
structure gR (B g N:Nat)(v:gD)(n:Nat)(p0:Int)(G:SS->Prop)(SV FV:gD)(b:Nat)(L:Array Bool)(W:gM)(t6 t7 t8 t26 t27 t28 t29 t30 t31 t32 t33 t34:gD):Prop where
 rd:∃p3:Int,p0<=p3/\p3<=p0+(fu (L.getD 3 false) 500)/\Rd B W g v n p3
 s0:L.getD 0 false=true->t27=SV
 s1:L.getD 1 false=true->t28=.pointer (some ⟨g,0,none⟩)
 s2:L.getD 2 false=true->t29=SV
 s3:L.getD 3 false=true->∃f:LI,f.length<=1000/\bW W N t30 f
 s4:L.getD 4 false=true->∃x m o:gD,t31=.tuple #[x,m,o]/\nS G W (fun z=>N<=z/\(L.getD 9 false=true->t6≠ .pointer (some ⟨z,0,none⟩))) x o
 s5:L.getD 5 false=true->t26=t31
 s6:L.getD 6 false=true->∃x m o:gD,t31=.tuple #[x,m,o]/\t32=x
 s7:L.getD 7 false=true->∃x m o:gD,t31=.tuple #[x,m,o]/\t33=m
 s8:L.getD 8 false=true->∃x m o:gD,t31=.tuple #[x,m,o]/\t34=o
 s9:L.getD 9 false=true->∃q:Nat,t6=.pointer (some ⟨q,0,none⟩)/\N<=q
 s10:L.getD 10 false=true->∃(q:Nat)(k2 n2:Int)(e0 e1 e2 e3:gD)(m o:gD),t6=.pointer (some ⟨q,0,none⟩)/\N<=q/\t31=.tuple #[sv k2 n2 e0 e1 e2 e3,m,o]/\Bk W q #[.int .i64 k2,.int .i64 n2,e0,e1,e2,e3] 30
 s11:L.getD 11 false=true->∃x m o:gD,t31=.tuple #[x,m,o]/\t7=m
 s12:L.getD 12 false=true->∃x m o:gD,t31=.tuple #[x,m,o]/\t8=o
 c5:L.getD 5 false=true->L.getD 4 false=true
 c6:L.getD 6 false=true->L.getD 4 false=true
 c7:L.getD 7 false=true->L.getD 4 false=true
 c8:L.getD 8 false=true->L.getD 4 false=true
 c10:L.getD 10 false=true->L.getD 4 false=true
 c11:L.getD 11 false=true->L.getD 4 false=true
 c12:L.getD 12 false=true->L.getD 4 false=true
 d:L.getD 10 false=true->L.getD 9 false=true
 z:L.getD 9 false=true->L.getD 10 true=false->∃q:Nat,t6=.pointer (some ⟨q,0,none⟩)/\N<=q/\Bk W q #[.int .i64 0,.int .i64 0,.slice none 0 0,.slice none 0 0,.slice none 0 0,.slice none 0 0] 30
section
variable {B g N:Nat}{v:gD}{n:Nat}{p0:Int}{G:SS->Prop}{SV FV:gD}{b:Nat}{L:Array Bool}{W W':gM}{t6 t7 t8 t26 t27 t28 t29 t30 t31 t32 t33 t34:gD}
theorem gR.keep (h:gR B g N v n p0 G SV FV b L W t6 t7 t8 t26 t27 t28 t29 t30 t31 t32 t33 t34)(a:iM W.heap.size W W')(hg:g<N):gR B g N v n p0 G SV FV b L W' t6 t7 t8 t26 t27 t28 t29 t30 t31 t32 t33 t34 where
 rd:=by obtain⟨p3,h1,h2,h3⟩:=h.rd;exact⟨p3,h1,h2,h3.aa a⟩
 s0:=h.s0
 s1:=h.s1
 s2:=h.s2
 s3:=fun e=>by have hx:Bx g W W':=Bx.aD a;exact (by obtain⟨I,H,A⟩:=h.s3 e;exact⟨I,H,oX A hx hg⟩)
 s4:=fun e=>by have hx:Bx g W W':=Bx.aD a;exact (by obtain⟨x,m,o,e1,D⟩:=h.s4 e;exact⟨x,m,o,e1,D.move (fun z s hl=>⟨s,hx.block z hl (by have:=s.1;omega)⟩) hx.size⟩)
 s5:=h.s5
 s6:=h.s6
 s7:=h.s7
 s8:=h.s8
 s9:=h.s9
 s10:=fun e=>by have hx:Bx g W W':=Bx.aD a;exact (by obtain⟨q,k2,n2,e0,e1,e2,e3,m,o,h1,h2,h3,h4⟩:=h.s10 e;exact⟨q,k2,n2,e0,e1,e2,e3,m,o,h1,h2,h3,h4.aN hx (by omega)⟩)
 s11:=h.s11
 s12:=h.s12
 c5:=h.c5
 c6:=h.c6
 c7:=h.c7
 c8:=h.c8
 c10:=h.c10
 c11:=h.c11
 c12:=h.c12
 d:=h.d
 z:=fun e1 e2=>by obtain⟨q,h1,h2,h3⟩:=h.z e1 e2;exact⟨q,h1,h2,h3.keep a⟩
theorem gR.aw (h:gR B g N v n p0 G SV FV b L W t6 t7 t8 t26 t27 t28 t29 t30 t31 t32 t33 t34)(s:u=SV):gR B g N v n p0 G SV FV b (L.setIfInBounds 0 true) W t6 t7 t8 t26 u t28 t29 t30 t31 t32 t33 t34:=by
 have A:=h;cases A;constructor
 case rd=>exact by obtain⟨p3,h1,h2,h3⟩:=h.rd;exact⟨p3,h1,by rw[fN (i:=0) (j:=3) (by decide)];exact h2,h3⟩
 case s0=>exact fun _=>s
 case s4=>exact fun e=>by obtain⟨x,m,o,e1,D⟩:=h.s4 (gS e);exact⟨x,m,o,e1,D.wk fun z a _=>⟨a.1,fun e=>a.2 (gS e)⟩⟩
 all_goals (intro e;replace e:=gS e;first|solve_by_elim|exact getD_upV (by solve_by_elim)|(intro e2;replace e2:=gT e2;solve_by_elim))
theorem gR.au (h:gR B g N v n p0 G SV FV b L W t6 t7 t8 t26 t27 t28 t29 t30 t31 t32 t33 t34)(s:u=.pointer (some ⟨g,0,none⟩)):gR B g N v n p0 G SV FV b (L.setIfInBounds 1 true) W t6 t7 t8 t26 t27 u t29 t30 t31 t32 t33 t34:=by
 have A:=h;cases A;constructor
 case rd=>exact by obtain⟨p3,h1,h2,h3⟩:=h.rd;exact⟨p3,h1,by rw[fN (i:=1) (j:=3) (by decide)];exact h2,h3⟩
 case s1=>exact fun _=>s
 case s4=>exact fun e=>by obtain⟨x,m,o,e1,D⟩:=h.s4 (gS e);exact⟨x,m,o,e1,D.wk fun z a _=>⟨a.1,fun e=>a.2 (gS e)⟩⟩
 all_goals (intro e;replace e:=gS e;first|solve_by_elim|exact getD_upV (by solve_by_elim)|(intro e2;replace e2:=gT e2;solve_by_elim))
theorem gR.ar (h:gR B g N v n p0 G SV FV b L W t6 t7 t8 t26 t27 t28 t29 t30 t31 t32 t33 t34)(s:u=SV):gR B g N v n p0 G SV FV b (L.setIfInBounds 2 true) W t6 t7 t8 t26 t27 t28 u t30 t31 t32 t33 t34:=by
 have A:=h;cases A;constructor
 case rd=>exact by obtain⟨p3,h1,h2,h3⟩:=h.rd;exact⟨p3,h1,by rw[fN (i:=2) (j:=3) (by decide)];exact h2,h3⟩
 case s2=>exact fun _=>s
 case s4=>exact fun e=>by obtain⟨x,m,o,e1,D⟩:=h.s4 (gS e);exact⟨x,m,o,e1,D.wk fun z a _=>⟨a.1,fun e=>a.2 (gS e)⟩⟩
 all_goals (intro e;replace e:=gS e;first|solve_by_elim|exact getD_upV (by solve_by_elim)|(intro e2;replace e2:=gT e2;solve_by_elim))
theorem gR.aq (hg:g<N)(I:L.size=13)(s:L.getD 3 true=false)(h:gR B g N v n p0 G SV FV b L W t6 t7 t8 t26 t27 t28 t29 t30 t31 t32 t33 t34)(hx:Bx g W W')(h1:p0<=p3)(h2:p3<=p0+(fu (L.getD 3 false) 500))(h3:p3<=p4)(h4:p4<=p3+500)(hr:Rd B W' g v n p4)(A:∃f:LI,f.length<=1000/\bW W' N u f):gR B g N v n p0 G SV FV b (L.setIfInBounds 3 true) W' t6 t7 t8 t26 t27 t28 t29 u t31 t32 t33 t34:=by
 have D:=h;cases D;constructor
 case rd=>exact⟨p4,by omega,by rw[sI (i:=3) (by omega)];rw[zG s]at h2;omega,hr⟩
 case s3=>exact fun _=>A
 case s4=>exact fun e=>by obtain⟨x,m,o,e1,H⟩:=h.s4 (gS e);exact⟨x,m,o,e1,H.move (fun z a hl=>⟨⟨a.1,fun e=>a.2 (gS e)⟩,hx.block z hl (by have:=a.1;omega)⟩) hx.size⟩
 case s10=>exact fun e=>(by obtain⟨q,k2,n2,e0,e1,e2,e3,m,o,h1,h2,h3,h4⟩:=h.s10 (gS e);exact⟨q,k2,n2,e0,e1,e2,e3,m,o,h1,h2,h3,h4.aN hx (by omega)⟩)
 case z=>exact fun e1 e2=>by obtain⟨q,h1,h2,h3⟩:=h.z (gS e1) (gT e2);exact⟨q,h1,h2,h3.aN hx (by omega)⟩
 all_goals (intro e;replace e:=gS e;first|solve_by_elim|exact getD_upV (by solve_by_elim))
theorem gR.be (a:L.getD 4 false=true->False)(h:gR B g N v n p0 G SV FV b L W t6 t7 t8 t26 t27 t28 t29 t30 t31 t32 t33 t34)(A:∃x m o:gD,u=.tuple #[x,m,o]/\nS G W (fun z=>N<=z/\(L.getD 9 false=true->t6≠ .pointer (some ⟨z,0,none⟩))) x o):gR B g N v n p0 G SV FV b (L.setIfInBounds 4 true) W t6 t7 t8 t26 t27 t28 t29 t30 u t32 t33 t34:=by
 have D:=h;cases D;constructor
 case rd=>exact by obtain⟨p3,h1,h2,h3⟩:=h.rd;exact⟨p3,h1,by rw[fN (i:=4) (j:=3) (by decide)];exact h2,h3⟩
 case s4=>exact fun _=>by obtain⟨x,m,o,e1,H⟩:=A;exact⟨x,m,o,e1,H.wk fun z s _=>⟨s.1,fun e=>s.2 (gS e)⟩⟩
 case s5=>exact fun e=>(a (h.c5 (gS e))).elim
 case s6=>exact fun e=>(a (h.c6 (gS e))).elim
 case s7=>exact fun e=>(a (h.c7 (gS e))).elim
 case s8=>exact fun e=>(a (h.c8 (gS e))).elim
 case s10=>exact fun e=>(a (h.c10 (gS e))).elim
 case s11=>exact fun e=>(a (h.c11 (gS e))).elim
 case s12=>exact fun e=>(a (h.c12 (gS e))).elim
 all_goals (intro e;replace e:=gS e;first|solve_by_elim|exact getD_upV (by solve_by_elim)|(intro e2;replace e2:=gT e2;solve_by_elim))
theorem gR.cb (hl:L.getD 4 false=true)(h:gR B g N v n p0 G SV FV b L W t6 t7 t8 t26 t27 t28 t29 t30 t31 t32 t33 t34)(s:u=t31):gR B g N v n p0 G SV FV b (L.setIfInBounds 5 true) W t6 t7 t8 u t27 t28 t29 t30 t31 t32 t33 t34:=by
 have A:=h;cases A;constructor
 case rd=>exact by obtain⟨p3,h1,h2,h3⟩:=h.rd;exact⟨p3,h1,by rw[fN (i:=5) (j:=3) (by decide)];exact h2,h3⟩
 case s5=>exact fun _=>s
 case s4=>exact fun e=>by obtain⟨x,m,o,e1,D⟩:=h.s4 (gS e);exact⟨x,m,o,e1,D.wk fun z a _=>⟨a.1,fun e=>a.2 (gS e)⟩⟩
 case c5=>exact fun e=>getD_upV (hl)
 all_goals (intro e;replace e:=gS e;first|solve_by_elim|exact getD_upV (by solve_by_elim)|(intro e2;replace e2:=gT e2;solve_by_elim))
theorem gR.ca (hl:L.getD 4 false=true)(h:gR B g N v n p0 G SV FV b L W t6 t7 t8 t26 t27 t28 t29 t30 t31 t32 t33 t34)(s:∃x m o:gD,t31=.tuple #[x,m,o]/\u=x):gR B g N v n p0 G SV FV b (L.setIfInBounds 6 true) W t6 t7 t8 t26 t27 t28 t29 t30 t31 u t33 t34:=by
 have A:=h;cases A;constructor
 case rd=>exact by obtain⟨p3,h1,h2,h3⟩:=h.rd;exact⟨p3,h1,by rw[fN (i:=6) (j:=3) (by decide)];exact h2,h3⟩
 case s6=>exact fun _=>s
 case s4=>exact fun e=>by obtain⟨x,m,o,e1,D⟩:=h.s4 (gS e);exact⟨x,m,o,e1,D.wk fun z a _=>⟨a.1,fun e=>a.2 (gS e)⟩⟩
 case c6=>exact fun e=>getD_upV (hl)
 all_goals (intro e;replace e:=gS e;first|solve_by_elim|exact getD_upV (by solve_by_elim)|(intro e2;replace e2:=gT e2;solve_by_elim))
theorem gR.cZ (hl:L.getD 4 false=true)(h:gR B g N v n p0 G SV FV b L W t6 t7 t8 t26 t27 t28 t29 t30 t31 t32 t33 t34)(s:∃x m o:gD,t31=.tuple #[x,m,o]/\u=m):gR B g N v n p0 G SV FV b (L.setIfInBounds 7 true) W t6 t7 t8 t26 t27 t28 t29 t30 t31 t32 u t34:=by
 have A:=h;cases A;constructor
 case rd=>exact by obtain⟨p3,h1,h2,h3⟩:=h.rd;exact⟨p3,h1,by rw[fN (i:=7) (j:=3) (by decide)];exact h2,h3⟩
 case s7=>exact fun _=>s
 case s4=>exact fun e=>by obtain⟨x,m,o,e1,D⟩:=h.s4 (gS e);exact⟨x,m,o,e1,D.wk fun z a _=>⟨a.1,fun e=>a.2 (gS e)⟩⟩
 case c7=>exact fun e=>getD_upV (hl)
 all_goals (intro e;replace e:=gS e;first|solve_by_elim|exact getD_upV (by solve_by_elim)|(intro e2;replace e2:=gT e2;solve_by_elim))
theorem gR.cN (hl:L.getD 4 false=true)(h:gR B g N v n p0 G SV FV b L W t6 t7 t8 t26 t27 t28 t29 t30 t31 t32 t33 t34)(s:∃x m o:gD,t31=.tuple #[x,m,o]/\u=o):gR B g N v n p0 G SV FV b (L.setIfInBounds 8 true) W t6 t7 t8 t26 t27 t28 t29 t30 t31 t32 t33 u:=by
 have A:=h;cases A;constructor
 case rd=>exact by obtain⟨p3,h1,h2,h3⟩:=h.rd;exact⟨p3,h1,by rw[fN (i:=8) (j:=3) (by decide)];exact h2,h3⟩
 case s8=>exact fun _=>s
 case s4=>exact fun e=>by obtain⟨x,m,o,e1,D⟩:=h.s4 (gS e);exact⟨x,m,o,e1,D.wk fun z a _=>⟨a.1,fun e=>a.2 (gS e)⟩⟩
 case c8=>exact fun e=>getD_upV (hl)
 all_goals (intro e;replace e:=gS e;first|solve_by_elim|exact getD_upV (by solve_by_elim)|(intro e2;replace e2:=gT e2;solve_by_elim))
theorem gR.cg (J:L.size=13)(s:L.getD 9 true=false)(h0:gR B g N v n p0 G SV FV b L W t6 t7 t8 t26 t27 t28 t29 t30 t31 t32 t33 t34)(D:N<=W.heap.size)(hg:g<N)(a:iM W.heap.size W W')(A:Bk W' W.heap.size #[.int .i64 0,.int .i64 0,.slice none 0 0,.slice none 0 0,.slice none 0 0,.slice none 0 0] 30):gR B g N v n p0 G SV FV b (L.setIfInBounds 9 true) W' (.pointer (some ⟨W.heap.size,0,none⟩)) t7 t8 t26 t27 t28 t29 t30 t31 t32 t33 t34:=by
 have h:=h0.keep a hg;exact {
  rd:=by obtain⟨p3,h1,h2,h3⟩:=h.rd;exact⟨p3,h1,by rw[fN (i:=9) (j:=3) (by decide)];exact h2,h3⟩,
  s0:=fun e=>h.s0 (gS e),
  s1:=fun e=>h.s1 (gS e),
  s2:=fun e=>h.s2 (gS e),
  s3:=fun e=>h.s3 (gS e),
  s4:=fun e=>by obtain⟨x,m,o,e1,I⟩:=h0.s4 (gS e);exact⟨x,m,o,e1,I.move (fun z H hl=>⟨⟨H.1,fun _ e=>by have:=congrArg Addr.block (AP (Df e));simp at this;omega⟩,a.block z hl⟩) a.size⟩,
  s5:=fun e=>h.s5 (gS e),
  s6:=fun e=>h.s6 (gS e),
  s7:=fun e=>h.s7 (gS e),
  s8:=fun e=>h.s8 (gS e),
  s9:=fun _=>⟨_,rfl,D⟩,
  s10:=fun e=>(gN (h.d (gS e)) s).elim,
  s11:=fun e=>h.s11 (gS e),
  s12:=fun e=>h.s12 (gS e),
  c5:=fun e=>getD_upV (h.c5 (gS e)),
  c6:=fun e=>getD_upV (h.c6 (gS e)),
  c7:=fun e=>getD_upV (h.c7 (gS e)),
  c8:=fun e=>getD_upV (h.c8 (gS e)),
  c10:=fun e=>getD_upV (h.c10 (gS e)),
  c11:=fun e=>getD_upV (h.c11 (gS e)),
  c12:=fun e=>getD_upV (h.c12 (gS e)),
  d:=fun _=>gH (by omega),
  z:=fun _ _=>⟨_,rfl,D,A⟩ }
theorem gR.bQ {m:gD}(Y:L.size=13)(hl:L.getD 4 false=true)(a:L.getD 9 false=true)(h:gR B g N v n p0 G SV FV b L W t6 t7 t8 t26 t27 t28 t29 t30 t31 t32 t33 t34)(H:t6=.pointer (some ⟨q,0,none⟩))(J:N<=q)(O:t31=.tuple #[sv k2 n2 e0 e1 e2 e3,m,o])(hq:Bk W q #[.int .i64 0,.int .i64 0,.slice none 0 0,.slice none 0 0,.slice none 0 0,.slice none 0 0] 30)(hx:∀x,x≠q->W'.heap[x]?=W.heap[x]?)(D:W'.heap.size=W.heap.size)(hr:∀p3,Rd B W g v n p3->Rd B W' g v n p3)(I:Bk W' q #[.int .i64 k2,.int .i64 n2,e0,e1,e2,e3] 30):gR B g N v n p0 G SV FV b (L.setIfInBounds 10 true) W' t6 t7 t8 t26 t27 t28 t29 t30 t31 t32 t33 t34:=by
 have M:=h;cases M;constructor
 case rd=>exact by obtain⟨p3,h1,h2,h3⟩:=h.rd;exact⟨p3,h1,by rw[fN (i:=10) (j:=3) (by decide)];exact h2,hr p3 h3⟩
 case s3=>exact fun e=>(by obtain⟨U,S,A⟩:=h.s3 (gS e);exact⟨U,S,fB A fun z e=>hx z (by obtain⟨d,hd⟩:=n9 A e;exact bK hd hq (by decide))⟩)
 case s4=>exact fun e=>(by obtain⟨x,m,o,e1,R⟩:=h.s4 (gS e);exact⟨x,m,o,e1,R.move (fun z s hl=>⟨⟨s.1,fun _=>s.2 a⟩,hx z fun e=>s.2 a (by rw[H,e])⟩) (tN D.symm)⟩)
 case s10=>exact fun _=>⟨q,k2,n2,e0,e1,e2,e3,m,o,H,J,O,I⟩
 case c10=>exact fun e=>getD_upV (hl)
 case d=>exact fun _=>getD_upV a
 case z=>exact fun _ e2=>absurd e2 (by rw[gH (by omega)];decide)
 all_goals (intro e;replace e:=gS e;first|solve_by_elim|exact getD_upV (by solve_by_elim))
theorem gR.bL (hl:L.getD 4 false=true)(h:gR B g N v n p0 G SV FV b L W t6 t7 t8 t26 t27 t28 t29 t30 t31 t32 t33 t34)(s:∃x m o:gD,t31=.tuple #[x,m,o]/\u=m):gR B g N v n p0 G SV FV b (L.setIfInBounds 11 true) W t6 u t8 t26 t27 t28 t29 t30 t31 t32 t33 t34:=by
 have A:=h;cases A;constructor
 case rd=>exact by obtain⟨p3,h1,h2,h3⟩:=h.rd;exact⟨p3,h1,by rw[fN (i:=11) (j:=3) (by decide)];exact h2,h3⟩
 case s11=>exact fun _=>s
 case s4=>exact fun e=>by obtain⟨x,m,o,e1,D⟩:=h.s4 (gS e);exact⟨x,m,o,e1,D.wk fun z a _=>⟨a.1,fun e=>a.2 (gS e)⟩⟩
 case c11=>exact fun e=>getD_upV (hl)
 all_goals (intro e;replace e:=gS e;first|solve_by_elim|exact getD_upV (by solve_by_elim)|(intro e2;replace e2:=gT e2;solve_by_elim))
theorem gR.az (hl:L.getD 4 false=true)(h:gR B g N v n p0 G SV FV b L W t6 t7 t8 t26 t27 t28 t29 t30 t31 t32 t33 t34)(s:∃x m o:gD,t31=.tuple #[x,m,o]/\u=o):gR B g N v n p0 G SV FV b (L.setIfInBounds 12 true) W t6 t7 u t26 t27 t28 t29 t30 t31 t32 t33 t34:=by
 have A:=h;cases A;constructor
 case rd=>exact by obtain⟨p3,h1,h2,h3⟩:=h.rd;exact⟨p3,h1,by rw[fN (i:=12) (j:=3) (by decide)];exact h2,h3⟩
 case s12=>exact fun _=>s
 case s4=>exact fun e=>by obtain⟨x,m,o,e1,D⟩:=h.s4 (gS e);exact⟨x,m,o,e1,D.wk fun z a _=>⟨a.1,fun e=>a.2 (gS e)⟩⟩
 case c12=>exact fun e=>getD_upV (hl)
 all_goals (intro e;replace e:=gS e;first|solve_by_elim|exact getD_upV (by solve_by_elim)|(intro e2;replace e2:=gT e2;solve_by_elim))
theorem gR.fin (h:gR B g N v n p0 G SV FV b L W t6 t7 t8 t26 t27 t28 t29 t30 t31 t32 t33 t34)(a:∀j,j<13->L.getD j false=true):Pe B g N v n p0 (500) G W t6 t8:=by
 obtain⟨p3,h1,h2,h3⟩:=h.rd;rw[a 3 (by omega)]at h2;obtain⟨x,m,o,M,R⟩:=h.s4 (a 4 (by omega));obtain⟨q,k2,n2,e0,e1,e2,e3,m',Y,H,I,A,O⟩:=h.s10 (a 10 (by omega));obtain⟨S,Z,U,s,J⟩:=h.s12 (a 12 (by omega));rw[M]at A s;simp only[E8,Fl,Fj,and_true]at A s;obtain⟨rfl,rfl,rfl⟩:=A;obtain⟨rfl,rfl,rfl⟩:=s;exact⟨q,k2,n2,e0,e1,e2,e3,p3,H,I,O,by rw[J];exact R.wk fun z D _=>⟨D.1,fun e=>D.2 (a 9 (by omega)) (by rw[H,e])⟩,h1,by simp only[fu]at h2;omega,h3⟩
end
def M3 (B g N:Nat)(v:gD)(n:Nat)(p0:Int)(G:SS->Prop)(SV FV:gD)(b:Nat)(f0 f1 y1 y4 y11 y12 y13 y14 y15 y16 y17 y18 y52 y53 y54 y55 y56 y57 y58 y59 y60 y61 y62 y63 y64 y65 y66 y67 y68 y69 y70 y71 y72 y73 y74 y75 y76 y77 y78 y79 y80 y81 y82:gD)(W0:gM)(L:Array Bool)(a:Act)(W:gM):Prop:=
 L.size=13/\Bx g W0 W/\∃z9 z10 z19 z20 z21 z22 z23 z24 z25 z35 z36 z37 z38 z39 z40 z41 z42 z43 z44 z45 z46 z47 z48 z49 z50 z51 t6 t7 t8 t26 t27 t28 t29 t30 t31 t32 t33 t34:gD,
  a={ tmps:=#[.pointer (some ⟨g,0,none⟩),y1,f0,.pointer (some ⟨b,0,none⟩),y4,f1,t6,t7,t8,z9,z10,y11,y12,y13,y14,y15,y16,y17,y18,z19,z20,z21,z22,z23,z24,z25,t26,t27,t28,t29,t30,t31,t32,t33,t34,z35,z36,z37,z38,z39,z40,z41,z42,z43,z44,z45,z46,z47,z48,z49,z50,z51,y52,y53,y54,y55,y56,y57,y58,y59,y60,y61,y62,y63,y64,y65,y66,y67,y68,y69,y70,y71,y72,y73,y74,y75,y76,y77,y78,y79,y80,y81,y82],defers:=[] }/\gR B g N v n p0 G SV FV b L W t6 t7 t8 t26 t27 t28 t29 t30 t31 t32 t33 t34
theorem iJ {B g N:Nat}{v:gD}{n:Nat}{p0:Int}{G:SS->Prop}{SV FV:gD}{b:Nat}{y4 z1 z0 y8 y7 y6 y5 y3 y2 y0 x9 x8 x7 x6 x5 x4 x3 x2 x1 x0 h9 Z Y U R O M J I H D A s a:gD}{L:Array Bool}{W':gM}{t6 t7 t8 t26 t27 t28 t29 t30 t31 t32 t33 t34:gD}{z9 w2 w1 v9 v8 v7 v6 v5 v4 v3 v2 v1 v0 z8 z7 z5 z4 z3:gD}(w4:L.size=13)(hx:Bx g W0 W')(S:gR B g N v n p0 G SV FV b (L.setIfInBounds i true) W' t6 t7 t8 t26 t27 t28 t29 t30 t31 t32 t33 t34):
  M3 B g N v n p0 G SV FV b f0 f1 y1 y4 y11 y12 y13 y14 z1 z0 y8 y7 y52 y53 y6 y5 y3 y2 y0 x9 x8 x7 x6 x5 x4 x3 x2 x1 x0 h9 Z Y U R O M J I H D A s a W0 (L.setIfInBounds i true) { tmps:=#[.pointer (some ⟨g,0,none⟩),y1,f0,.pointer (some ⟨b,0,none⟩),y4,f1,t6,t7,t8,z9,w2,y11,y12,y13,y14,z1,z0,y8,y7,z19,z20,z21,z22,z23,z24,z25,t26,t27,t28,t29,t30,t31,t32,t33,t34,w1,v9,v8,v7,v6,v5,v4,v3,v2,v1,v0,z8,z7,z5,z4,z50,z3,y52,y53,y6,y5,y3,y2,y0,x9,x8,x7,x6,x5,x4,x3,x2,x1,x0,h9,Z,Y,U,R,O,M,J,I,H,D,A,s,a],defers:=[] } W':=
 ⟨by simp[w4],hx,_,_,_,_,_,_,_,_,_,_,_,_,_,_,_,_,_,_,_,_,_,_,_,_,_,_,_,_,_,_,_,_,_,_,_,_,_,_,rfl,S⟩
structure fC (B g N:Nat)(v:gD)(n:Nat)(p0:Int)(G:SS->Prop)(SV FV:gD)(b:Nat)(L:Array Bool)(W:gM)(t9 t10 t37 t38 t39 t40 t41 t42 t43 t44 t45 t46 t47 t48 t49:gD):Prop where
 rd:∃p3:Int,p0<=p3/\p3<=p0+(fu (L.getD 2 false) 1+fu (L.getD 5 false) 600+fu (L.getD 8 false) 10)/\Rd B W g v n p3
 s0:L.getD 0 false=true->t38=SV
 s1:L.getD 1 false=true->t39=.pointer (some ⟨g,0,none⟩)
 s2:L.getD 2 false=true->∃k:Int,t40=.int .i64 k/\0<=k/\k<2
 s3:L.getD 3 false=true->t41=.pointer (some ⟨g,0,none⟩)
 s4:L.getD 4 false=true->t42=.pointer (some ⟨g,0,none⟩)
 s5:L.getD 5 false=true->∃l:List Rw,l.length<=10/\aJ l<=9/\bH l=true/\aC W N t43 l
 s6:L.getD 6 false=true->t44=.pointer (some ⟨b,4,none⟩)
 s7:L.getD 7 false=true->t45=FV
 s8:L.getD 8 false=true->∃l:List Rw,l.length<=10/\aJ l<=9/\bH l=true/\aC W N t46 l
 s9:L.getD 9 false=true->∃x o:gD,t47=.tuple #[x,o]/\nS G W (fun z=>N<=z/\(L.getD 13 false=true->t9≠ .pointer (some ⟨z,0,none⟩))) x o
 s10:L.getD 10 false=true->t37=t47
 s11:L.getD 11 false=true->∃x o:gD,t47=.tuple #[x,o]/\t48=x
 s12:L.getD 12 false=true->∃x o:gD,t47=.tuple #[x,o]/\t49=o
 s13:L.getD 13 false=true->∃q:Nat,t9=.pointer (some ⟨q,0,none⟩)/\N<=q
 s14:L.getD 14 false=true->∃(q:Nat)(k2 n2:Int)(e0 e1 e2 e3:gD)(o:gD),t9=.pointer (some ⟨q,0,none⟩)/\N<=q/\t47=.tuple #[sv k2 n2 e0 e1 e2 e3,o]/\Bk W q #[.int .i64 k2,.int .i64 n2,e0,e1,e2,e3] 30
 s15:L.getD 15 false=true->∃x o:gD,t47=.tuple #[x,o]/\t10=o
 c10:L.getD 10 false=true->L.getD 9 false=true
 c11:L.getD 11 false=true->L.getD 9 false=true
 c12:L.getD 12 false=true->L.getD 9 false=true
 c14:L.getD 14 false=true->L.getD 9 false=true
 c15:L.getD 15 false=true->L.getD 9 false=true
 d:L.getD 14 false=true->L.getD 13 false=true
 z:L.getD 13 false=true->L.getD 14 true=false->∃q:Nat,t9=.pointer (some ⟨q,0,none⟩)/\N<=q/\Bk W q #[.int .i64 0,.int .i64 0,.slice none 0 0,.slice none 0 0,.slice none 0 0,.slice none 0 0] 30
section
variable {B g N:Nat}{v:gD}{n:Nat}{p0:Int}{G:SS->Prop}{SV FV:gD}{b:Nat}{L:Array Bool}{W W':gM}{t9 t10 t37 t38 t39 t40 t41 t42 t43 t44 t45 t46 t47 t48 t49:gD}
theorem fC.keep (h:fC B g N v n p0 G SV FV b L W t9 t10 t37 t38 t39 t40 t41 t42 t43 t44 t45 t46 t47 t48 t49)(a:iM W.heap.size W W')(hg:g<N):fC B g N v n p0 G SV FV b L W' t9 t10 t37 t38 t39 t40 t41 t42 t43 t44 t45 t46 t47 t48 t49 where
 rd:=by obtain⟨p3,h1,h2,h3⟩:=h.rd;exact⟨p3,h1,h2,h3.aa a⟩
 s0:=h.s0
 s1:=h.s1
 s2:=h.s2
 s3:=h.s3
 s4:=h.s4
 s5:=fun e=>by have hx:Bx g W W':=Bx.aD a;exact (by obtain⟨I,H,D,A,s⟩:=h.s5 e;exact⟨I,H,D,A,oX s hx hg⟩)
 s6:=h.s6
 s7:=h.s7
 s8:=fun e=>by have hx:Bx g W W':=Bx.aD a;exact (by obtain⟨I,H,D,A,s⟩:=h.s8 e;exact⟨I,H,D,A,oX s hx hg⟩)
 s9:=fun e=>by have hx:Bx g W W':=Bx.aD a;exact (by obtain⟨x,o,e1,M⟩:=h.s9 e;exact⟨x,o,e1,M.move (fun z J hl=>⟨J,hx.block z hl (by have:=J.1;omega)⟩) hx.size⟩)
 s10:=h.s10
 s11:=h.s11
 s12:=h.s12
 s13:=h.s13
 s14:=fun e=>by have hx:Bx g W W':=Bx.aD a;exact (by obtain⟨q,k2,n2,e0,e1,e2,e3,o,h1,h2,h3,h4⟩:=h.s14 e;exact⟨q,k2,n2,e0,e1,e2,e3,o,h1,h2,h3,h4.aN hx (by omega)⟩)
 s15:=h.s15
 c10:=h.c10
 c11:=h.c11
 c12:=h.c12
 c14:=h.c14
 c15:=h.c15
 d:=h.d
 z:=fun e1 e2=>by obtain⟨q,h1,h2,h3⟩:=h.z e1 e2;exact⟨q,h1,h2,h3.keep a⟩
theorem fC.aw (h:fC B g N v n p0 G SV FV b L W t9 t10 t37 t38 t39 t40 t41 t42 t43 t44 t45 t46 t47 t48 t49)(s:u=SV):fC B g N v n p0 G SV FV b (L.setIfInBounds 0 true) W t9 t10 t37 u t39 t40 t41 t42 t43 t44 t45 t46 t47 t48 t49:=by
 have A:=h;cases A;constructor
 case rd=>exact by obtain⟨p3,h1,h2,h3⟩:=h.rd;exact⟨p3,h1,by rw[fN (i:=0) (j:=2) (by decide),fN (i:=0) (j:=5) (by decide),fN (i:=0) (j:=8) (by decide)];exact h2,h3⟩
 case s0=>exact fun _=>s
 case s9=>exact fun e=>by obtain⟨x,o,e1,D⟩:=h.s9 (gS e);exact⟨x,o,e1,D.wk fun z a _=>⟨a.1,fun e=>a.2 (gS e)⟩⟩
 all_goals (intro e;replace e:=gS e;first|solve_by_elim|exact getD_upV (by solve_by_elim)|(intro e2;replace e2:=gT e2;solve_by_elim))
theorem fC.au (h:fC B g N v n p0 G SV FV b L W t9 t10 t37 t38 t39 t40 t41 t42 t43 t44 t45 t46 t47 t48 t49)(s:u=.pointer (some ⟨g,0,none⟩)):fC B g N v n p0 G SV FV b (L.setIfInBounds 1 true) W t9 t10 t37 t38 u t40 t41 t42 t43 t44 t45 t46 t47 t48 t49:=by
 have A:=h;cases A;constructor
 case rd=>exact by obtain⟨p3,h1,h2,h3⟩:=h.rd;exact⟨p3,h1,by rw[fN (i:=1) (j:=2) (by decide),fN (i:=1) (j:=5) (by decide),fN (i:=1) (j:=8) (by decide)];exact h2,h3⟩
 case s1=>exact fun _=>s
 case s9=>exact fun e=>by obtain⟨x,o,e1,D⟩:=h.s9 (gS e);exact⟨x,o,e1,D.wk fun z a _=>⟨a.1,fun e=>a.2 (gS e)⟩⟩
 all_goals (intro e;replace e:=gS e;first|solve_by_elim|exact getD_upV (by solve_by_elim)|(intro e2;replace e2:=gT e2;solve_by_elim))
theorem fC.ar (hg:g<N)(S:L.size=16)(J:L.getD 2 true=false)(h:fC B g N v n p0 G SV FV b L W t9 t10 t37 t38 t39 t40 t41 t42 t43 t44 t45 t46 t47 t48 t49)(hx:Bx g W W')(h1:p0<=p3)(h2:p3<=p0+(fu (L.getD 2 false) 1+fu (L.getD 5 false) 600+fu (L.getD 8 false) 10))(h3:p3<=p4)(h4:p4<=p3+1)(hr:Rd B W' g v n p4)(M:∃k:Int,u=.int .i64 k/\0<=k/\k<2):fC B g N v n p0 G SV FV b (L.setIfInBounds 2 true) W' t9 t10 t37 t38 t39 u t41 t42 t43 t44 t45 t46 t47 t48 t49:=by
 have O:=h;cases O;constructor
 case rd=>exact⟨p4,by omega,by rw[sI (i:=2) (by omega),fN (i:=2) (j:=5) (by decide),fN (i:=2) (j:=8) (by decide)];rw[zG J]at h2;omega,hr⟩
 case s2=>exact fun _=>M
 case s5=>exact fun e=>(by obtain⟨I,H,D,A,a⟩:=h.s5 (gS e);exact⟨I,H,D,A,oX a hx hg⟩)
 case s8=>exact fun e=>(by obtain⟨I,H,D,A,a⟩:=h.s8 (gS e);exact⟨I,H,D,A,oX a hx hg⟩)
 case s9=>exact fun e=>by obtain⟨x,o,e1,R⟩:=h.s9 (gS e);exact⟨x,o,e1,R.move (fun z s hl=>⟨⟨s.1,fun e=>s.2 (gS e)⟩,hx.block z hl (by have:=s.1;omega)⟩) hx.size⟩
 case s14=>exact fun e=>(by obtain⟨q,k2,n2,e0,e1,e2,e3,o,h1,h2,h3,h4⟩:=h.s14 (gS e);exact⟨q,k2,n2,e0,e1,e2,e3,o,h1,h2,h3,h4.aN hx (by omega)⟩)
 case z=>exact fun e1 e2=>by obtain⟨q,h1,h2,h3⟩:=h.z (gS e1) (gT e2);exact⟨q,h1,h2,h3.aN hx (by omega)⟩
 all_goals (intro e;replace e:=gS e;first|solve_by_elim|exact getD_upV (by solve_by_elim))
theorem fC.aq (h:fC B g N v n p0 G SV FV b L W t9 t10 t37 t38 t39 t40 t41 t42 t43 t44 t45 t46 t47 t48 t49)(s:u=.pointer (some ⟨g,0,none⟩)):fC B g N v n p0 G SV FV b (L.setIfInBounds 3 true) W t9 t10 t37 t38 t39 t40 u t42 t43 t44 t45 t46 t47 t48 t49:=by
 have A:=h;cases A;constructor
 case rd=>exact by obtain⟨p3,h1,h2,h3⟩:=h.rd;exact⟨p3,h1,by rw[fN (i:=3) (j:=2) (by decide),fN (i:=3) (j:=5) (by decide),fN (i:=3) (j:=8) (by decide)];exact h2,h3⟩
 case s3=>exact fun _=>s
 case s9=>exact fun e=>by obtain⟨x,o,e1,D⟩:=h.s9 (gS e);exact⟨x,o,e1,D.wk fun z a _=>⟨a.1,fun e=>a.2 (gS e)⟩⟩
 all_goals (intro e;replace e:=gS e;first|solve_by_elim|exact getD_upV (by solve_by_elim)|(intro e2;replace e2:=gT e2;solve_by_elim))
theorem fC.be (h:fC B g N v n p0 G SV FV b L W t9 t10 t37 t38 t39 t40 t41 t42 t43 t44 t45 t46 t47 t48 t49)(s:u=.pointer (some ⟨g,0,none⟩)):fC B g N v n p0 G SV FV b (L.setIfInBounds 4 true) W t9 t10 t37 t38 t39 t40 t41 u t43 t44 t45 t46 t47 t48 t49:=by
 have A:=h;cases A;constructor
 case rd=>exact by obtain⟨p3,h1,h2,h3⟩:=h.rd;exact⟨p3,h1,by rw[fN (i:=4) (j:=2) (by decide),fN (i:=4) (j:=5) (by decide),fN (i:=4) (j:=8) (by decide)];exact h2,h3⟩
 case s4=>exact fun _=>s
 case s9=>exact fun e=>by obtain⟨x,o,e1,D⟩:=h.s9 (gS e);exact⟨x,o,e1,D.wk fun z a _=>⟨a.1,fun e=>a.2 (gS e)⟩⟩
 all_goals (intro e;replace e:=gS e;first|solve_by_elim|exact getD_upV (by solve_by_elim)|(intro e2;replace e2:=gT e2;solve_by_elim))
theorem fC.cb (hg:g<N)(S:L.size=16)(s:L.getD 5 true=false)(h:fC B g N v n p0 G SV FV b L W t9 t10 t37 t38 t39 t40 t41 t42 t43 t44 t45 t46 t47 t48 t49)(hx:Bx g W W')(h1:p0<=p3)(h2:p3<=p0+(fu (L.getD 2 false) 1+fu (L.getD 5 false) 600+fu (L.getD 8 false) 10))(h3:p3<=p4)(h4:p4<=p3+600)(hr:Rd B W' g v n p4)(D:∃l:List Rw,l.length<=10/\aJ l<=9/\bH l=true/\aC W' N u l):fC B g N v n p0 G SV FV b (L.setIfInBounds 5 true) W' t9 t10 t37 t38 t39 t40 t41 t42 u t44 t45 t46 t47 t48 t49:=by
 have H:=h;cases H;constructor
 case rd=>exact⟨p4,by omega,by rw[fN (i:=5) (j:=2) (by decide),sI (i:=5) (by omega),fN (i:=5) (j:=8) (by decide)];rw[zG s]at h2;omega,hr⟩
 case s5=>exact fun _=>D
 case s8=>exact fun e=>(by obtain⟨R,O,M,J,A⟩:=h.s8 (gS e);exact⟨R,O,M,J,oX A hx hg⟩)
 case s9=>exact fun e=>by obtain⟨x,o,e1,I⟩:=h.s9 (gS e);exact⟨x,o,e1,I.move (fun z a hl=>⟨⟨a.1,fun e=>a.2 (gS e)⟩,hx.block z hl (by have:=a.1;omega)⟩) hx.size⟩
 case s14=>exact fun e=>(by obtain⟨q,k2,n2,e0,e1,e2,e3,o,h1,h2,h3,h4⟩:=h.s14 (gS e);exact⟨q,k2,n2,e0,e1,e2,e3,o,h1,h2,h3,h4.aN hx (by omega)⟩)
 case z=>exact fun e1 e2=>by obtain⟨q,h1,h2,h3⟩:=h.z (gS e1) (gT e2);exact⟨q,h1,h2,h3.aN hx (by omega)⟩
 all_goals (intro e;replace e:=gS e;first|solve_by_elim|exact getD_upV (by solve_by_elim))
theorem fC.ca (h:fC B g N v n p0 G SV FV b L W t9 t10 t37 t38 t39 t40 t41 t42 t43 t44 t45 t46 t47 t48 t49)(s:u=.pointer (some ⟨b,4,none⟩)):fC B g N v n p0 G SV FV b (L.setIfInBounds 6 true) W t9 t10 t37 t38 t39 t40 t41 t42 t43 u t45 t46 t47 t48 t49:=by
 have A:=h;cases A;constructor
 case rd=>exact by obtain⟨p3,h1,h2,h3⟩:=h.rd;exact⟨p3,h1,by rw[fN (i:=6) (j:=2) (by decide),fN (i:=6) (j:=5) (by decide),fN (i:=6) (j:=8) (by decide)];exact h2,h3⟩
 case s6=>exact fun _=>s
 case s9=>exact fun e=>by obtain⟨x,o,e1,D⟩:=h.s9 (gS e);exact⟨x,o,e1,D.wk fun z a _=>⟨a.1,fun e=>a.2 (gS e)⟩⟩
 all_goals (intro e;replace e:=gS e;first|solve_by_elim|exact getD_upV (by solve_by_elim)|(intro e2;replace e2:=gT e2;solve_by_elim))
theorem fC.cZ (h:fC B g N v n p0 G SV FV b L W t9 t10 t37 t38 t39 t40 t41 t42 t43 t44 t45 t46 t47 t48 t49)(s:u=FV):fC B g N v n p0 G SV FV b (L.setIfInBounds 7 true) W t9 t10 t37 t38 t39 t40 t41 t42 t43 t44 u t46 t47 t48 t49:=by
 have A:=h;cases A;constructor
 case rd=>exact by obtain⟨p3,h1,h2,h3⟩:=h.rd;exact⟨p3,h1,by rw[fN (i:=7) (j:=2) (by decide),fN (i:=7) (j:=5) (by decide),fN (i:=7) (j:=8) (by decide)];exact h2,h3⟩
 case s7=>exact fun _=>s
 case s9=>exact fun e=>by obtain⟨x,o,e1,D⟩:=h.s9 (gS e);exact⟨x,o,e1,D.wk fun z a _=>⟨a.1,fun e=>a.2 (gS e)⟩⟩
 all_goals (intro e;replace e:=gS e;first|solve_by_elim|exact getD_upV (by solve_by_elim)|(intro e2;replace e2:=gT e2;solve_by_elim))
theorem fC.cN (hg:g<N)(S:L.size=16)(s:L.getD 8 true=false)(h:fC B g N v n p0 G SV FV b L W t9 t10 t37 t38 t39 t40 t41 t42 t43 t44 t45 t46 t47 t48 t49)(hx:Bx g W W')(h1:p0<=p3)(h2:p3<=p0+(fu (L.getD 2 false) 1+fu (L.getD 5 false) 600+fu (L.getD 8 false) 10))(h3:p3<=p4)(h4:p4<=p3+10)(hr:Rd B W' g v n p4)(D:∃l:List Rw,l.length<=10/\aJ l<=9/\bH l=true/\aC W' N u l):fC B g N v n p0 G SV FV b (L.setIfInBounds 8 true) W' t9 t10 t37 t38 t39 t40 t41 t42 t43 t44 t45 u t47 t48 t49:=by
 have H:=h;cases H;constructor
 case rd=>exact⟨p4,by omega,by rw[fN (i:=8) (j:=2) (by decide),fN (i:=8) (j:=5) (by decide),sI (i:=8) (by omega)];rw[zG s]at h2;omega,hr⟩
 case s5=>exact fun e=>(by obtain⟨R,O,M,J,A⟩:=h.s5 (gS e);exact⟨R,O,M,J,oX A hx hg⟩)
 case s8=>exact fun _=>D
 case s9=>exact fun e=>by obtain⟨x,o,e1,I⟩:=h.s9 (gS e);exact⟨x,o,e1,I.move (fun z a hl=>⟨⟨a.1,fun e=>a.2 (gS e)⟩,hx.block z hl (by have:=a.1;omega)⟩) hx.size⟩
 case s14=>exact fun e=>(by obtain⟨q,k2,n2,e0,e1,e2,e3,o,h1,h2,h3,h4⟩:=h.s14 (gS e);exact⟨q,k2,n2,e0,e1,e2,e3,o,h1,h2,h3,h4.aN hx (by omega)⟩)
 case z=>exact fun e1 e2=>by obtain⟨q,h1,h2,h3⟩:=h.z (gS e1) (gT e2);exact⟨q,h1,h2,h3.aN hx (by omega)⟩
 all_goals (intro e;replace e:=gS e;first|solve_by_elim|exact getD_upV (by solve_by_elim))
theorem fC.cg (a:L.getD 9 false=true->False)(h:fC B g N v n p0 G SV FV b L W t9 t10 t37 t38 t39 t40 t41 t42 t43 t44 t45 t46 t47 t48 t49)(A:∃x o:gD,u=.tuple #[x,o]/\nS G W (fun z=>N<=z/\(L.getD 13 false=true->t9≠ .pointer (some ⟨z,0,none⟩))) x o):fC B g N v n p0 G SV FV b (L.setIfInBounds 9 true) W t9 t10 t37 t38 t39 t40 t41 t42 t43 t44 t45 t46 u t48 t49:=by
 have D:=h;cases D;constructor
 case rd=>exact by obtain⟨p3,h1,h2,h3⟩:=h.rd;exact⟨p3,h1,by rw[fN (i:=9) (j:=2) (by decide),fN (i:=9) (j:=5) (by decide),fN (i:=9) (j:=8) (by decide)];exact h2,h3⟩
 case s9=>exact fun _=>by obtain⟨x,o,e1,H⟩:=A;exact⟨x,o,e1,H.wk fun z s _=>⟨s.1,fun e=>s.2 (gS e)⟩⟩
 case s10=>exact fun e=>(a (h.c10 (gS e))).elim
 case s11=>exact fun e=>(a (h.c11 (gS e))).elim
 case s12=>exact fun e=>(a (h.c12 (gS e))).elim
 case s14=>exact fun e=>(a (h.c14 (gS e))).elim
 case s15=>exact fun e=>(a (h.c15 (gS e))).elim
 all_goals (intro e;replace e:=gS e;first|solve_by_elim|exact getD_upV (by solve_by_elim)|(intro e2;replace e2:=gT e2;solve_by_elim))
theorem fC.bQ (hl:L.getD 9 false=true)(h:fC B g N v n p0 G SV FV b L W t9 t10 t37 t38 t39 t40 t41 t42 t43 t44 t45 t46 t47 t48 t49)(s:u=t47):fC B g N v n p0 G SV FV b (L.setIfInBounds 10 true) W t9 t10 u t38 t39 t40 t41 t42 t43 t44 t45 t46 t47 t48 t49:=by
 have A:=h;cases A;constructor
 case rd=>exact by obtain⟨p3,h1,h2,h3⟩:=h.rd;exact⟨p3,h1,by rw[fN (i:=10) (j:=2) (by decide),fN (i:=10) (j:=5) (by decide),fN (i:=10) (j:=8) (by decide)];exact h2,h3⟩
 case s10=>exact fun _=>s
 case s9=>exact fun e=>by obtain⟨x,o,e1,D⟩:=h.s9 (gS e);exact⟨x,o,e1,D.wk fun z a _=>⟨a.1,fun e=>a.2 (gS e)⟩⟩
 case c10=>exact fun e=>getD_upV (hl)
 all_goals (intro e;replace e:=gS e;first|solve_by_elim|exact getD_upV (by solve_by_elim)|(intro e2;replace e2:=gT e2;solve_by_elim))
theorem fC.bL (hl:L.getD 9 false=true)(h:fC B g N v n p0 G SV FV b L W t9 t10 t37 t38 t39 t40 t41 t42 t43 t44 t45 t46 t47 t48 t49)(s:∃x o:gD,t47=.tuple #[x,o]/\u=x):fC B g N v n p0 G SV FV b (L.setIfInBounds 11 true) W t9 t10 t37 t38 t39 t40 t41 t42 t43 t44 t45 t46 t47 u t49:=by
 have A:=h;cases A;constructor
 case rd=>exact by obtain⟨p3,h1,h2,h3⟩:=h.rd;exact⟨p3,h1,by rw[fN (i:=11) (j:=2) (by decide),fN (i:=11) (j:=5) (by decide),fN (i:=11) (j:=8) (by decide)];exact h2,h3⟩
 case s11=>exact fun _=>s
 case s9=>exact fun e=>by obtain⟨x,o,e1,D⟩:=h.s9 (gS e);exact⟨x,o,e1,D.wk fun z a _=>⟨a.1,fun e=>a.2 (gS e)⟩⟩
 case c11=>exact fun e=>getD_upV (hl)
 all_goals (intro e;replace e:=gS e;first|solve_by_elim|exact getD_upV (by solve_by_elim)|(intro e2;replace e2:=gT e2;solve_by_elim))
theorem fC.az (hl:L.getD 9 false=true)(h:fC B g N v n p0 G SV FV b L W t9 t10 t37 t38 t39 t40 t41 t42 t43 t44 t45 t46 t47 t48 t49)(s:∃x o:gD,t47=.tuple #[x,o]/\u=o):fC B g N v n p0 G SV FV b (L.setIfInBounds 12 true) W t9 t10 t37 t38 t39 t40 t41 t42 t43 t44 t45 t46 t47 t48 u:=by
 have A:=h;cases A;constructor
 case rd=>exact by obtain⟨p3,h1,h2,h3⟩:=h.rd;exact⟨p3,h1,by rw[fN (i:=12) (j:=2) (by decide),fN (i:=12) (j:=5) (by decide),fN (i:=12) (j:=8) (by decide)];exact h2,h3⟩
 case s12=>exact fun _=>s
 case s9=>exact fun e=>by obtain⟨x,o,e1,D⟩:=h.s9 (gS e);exact⟨x,o,e1,D.wk fun z a _=>⟨a.1,fun e=>a.2 (gS e)⟩⟩
 case c12=>exact fun e=>getD_upV (hl)
 all_goals (intro e;replace e:=gS e;first|solve_by_elim|exact getD_upV (by solve_by_elim)|(intro e2;replace e2:=gT e2;solve_by_elim))
theorem fC.bu (J:L.size=16)(s:L.getD 13 true=false)(h0:fC B g N v n p0 G SV FV b L W t9 t10 t37 t38 t39 t40 t41 t42 t43 t44 t45 t46 t47 t48 t49)(D:N<=W.heap.size)(hg:g<N)(a:iM W.heap.size W W')(A:Bk W' W.heap.size #[.int .i64 0,.int .i64 0,.slice none 0 0,.slice none 0 0,.slice none 0 0,.slice none 0 0] 30):fC B g N v n p0 G SV FV b (L.setIfInBounds 13 true) W' (.pointer (some ⟨W.heap.size,0,none⟩)) t10 t37 t38 t39 t40 t41 t42 t43 t44 t45 t46 t47 t48 t49:=by
 have h:=h0.keep a hg;exact {
  rd:=by obtain⟨p3,h1,h2,h3⟩:=h.rd;exact⟨p3,h1,by rw[fN (i:=13) (j:=2) (by decide),fN (i:=13) (j:=5) (by decide),fN (i:=13) (j:=8) (by decide)];exact h2,h3⟩,
  s0:=fun e=>h.s0 (gS e),
  s1:=fun e=>h.s1 (gS e),
  s2:=fun e=>h.s2 (gS e),
  s3:=fun e=>h.s3 (gS e),
  s4:=fun e=>h.s4 (gS e),
  s5:=fun e=>h.s5 (gS e),
  s6:=fun e=>h.s6 (gS e),
  s7:=fun e=>h.s7 (gS e),
  s8:=fun e=>h.s8 (gS e),
  s9:=fun e=>by obtain⟨x,o,e1,I⟩:=h0.s9 (gS e);exact⟨x,o,e1,I.move (fun z H hl=>⟨⟨H.1,fun _ e=>by have:=congrArg Addr.block (AP (Df e));simp at this;omega⟩,a.block z hl⟩) a.size⟩,
  s10:=fun e=>h.s10 (gS e),
  s11:=fun e=>h.s11 (gS e),
  s12:=fun e=>h.s12 (gS e),
  s13:=fun _=>⟨_,rfl,D⟩,
  s14:=fun e=>(gN (h.d (gS e)) s).elim,
  s15:=fun e=>h.s15 (gS e),
  c10:=fun e=>getD_upV (h.c10 (gS e)),
  c11:=fun e=>getD_upV (h.c11 (gS e)),
  c12:=fun e=>getD_upV (h.c12 (gS e)),
  c14:=fun e=>getD_upV (h.c14 (gS e)),
  c15:=fun e=>getD_upV (h.c15 (gS e)),
  d:=fun _=>gH (by omega),
  z:=fun _ _=>⟨_,rfl,D,A⟩ }
theorem fC.cq (h9:L.size=16)(hl:L.getD 9 false=true)(s:L.getD 13 false=true)(h:fC B g N v n p0 G SV FV b L W t9 t10 t37 t38 t39 t40 t41 t42 t43 t44 t45 t46 t47 t48 t49)(O:t9=.pointer (some ⟨q,0,none⟩))(S:N<=q)(Y:t47=.tuple #[sv k2 n2 e0 e1 e2 e3,o])(hq:Bk W q #[.int .i64 0,.int .i64 0,.slice none 0 0,.slice none 0 0,.slice none 0 0,.slice none 0 0] 30)(hx:∀x,x≠q->W'.heap[x]?=W.heap[x]?)(M:W'.heap.size=W.heap.size)(hr:∀p3,Rd B W g v n p3->Rd B W' g v n p3)(R:Bk W' q #[.int .i64 k2,.int .i64 n2,e0,e1,e2,e3] 30):fC B g N v n p0 G SV FV b (L.setIfInBounds 14 true) W' t9 t10 t37 t38 t39 t40 t41 t42 t43 t44 t45 t46 t47 t48 t49:=by
 have U:=h;cases U;constructor
 case rd=>exact by obtain⟨p3,h1,h2,h3⟩:=h.rd;exact⟨p3,h1,by rw[fN (i:=14) (j:=2) (by decide),fN (i:=14) (j:=5) (by decide),fN (i:=14) (j:=8) (by decide)];exact h2,hr p3 h3⟩
 case s5=>exact fun e=>(by obtain⟨J,I,H,D,a⟩:=h.s5 (gS e);exact⟨J,I,H,D,fB a fun z e=>hx z (by obtain⟨d,hd⟩:=iQ a e;exact bK hd hq (by decide))⟩)
 case s8=>exact fun e=>(by obtain⟨J,I,H,D,a⟩:=h.s8 (gS e);exact⟨J,I,H,D,fB a fun z e=>hx z (by obtain⟨d,hd⟩:=iQ a e;exact bK hd hq (by decide))⟩)
 case s9=>exact fun e=>(by obtain⟨x,o,e1,Z⟩:=h.s9 (gS e);exact⟨x,o,e1,Z.move (fun z A hl=>⟨⟨A.1,fun _=>A.2 s⟩,hx z fun e=>A.2 s (by rw[O,e])⟩) (tN M.symm)⟩)
 case s14=>exact fun _=>⟨q,k2,n2,e0,e1,e2,e3,o,O,S,Y,R⟩
 case c14=>exact fun e=>getD_upV (hl)
 case d=>exact fun _=>getD_upV s
 case z=>exact fun _ e2=>absurd e2 (by rw[gH (by omega)];decide)
 all_goals (intro e;replace e:=gS e;first|solve_by_elim|exact getD_upV (by solve_by_elim))
theorem fC.ct (hl:L.getD 9 false=true)(h:fC B g N v n p0 G SV FV b L W t9 t10 t37 t38 t39 t40 t41 t42 t43 t44 t45 t46 t47 t48 t49)(s:∃x o:gD,t47=.tuple #[x,o]/\u=o):fC B g N v n p0 G SV FV b (L.setIfInBounds 15 true) W t9 u t37 t38 t39 t40 t41 t42 t43 t44 t45 t46 t47 t48 t49:=by
 have A:=h;cases A;constructor
 case rd=>exact by obtain⟨p3,h1,h2,h3⟩:=h.rd;exact⟨p3,h1,by rw[fN (i:=15) (j:=2) (by decide),fN (i:=15) (j:=5) (by decide),fN (i:=15) (j:=8) (by decide)];exact h2,h3⟩
 case s15=>exact fun _=>s
 case s9=>exact fun e=>by obtain⟨x,o,e1,D⟩:=h.s9 (gS e);exact⟨x,o,e1,D.wk fun z a _=>⟨a.1,fun e=>a.2 (gS e)⟩⟩
 case c15=>exact fun e=>getD_upV (hl)
 all_goals (intro e;replace e:=gS e;first|solve_by_elim|exact getD_upV (by solve_by_elim)|(intro e2;replace e2:=gT e2;solve_by_elim))
theorem fC.fin (h:fC B g N v n p0 G SV FV b L W t9 t10 t37 t38 t39 t40 t41 t42 t43 t44 t45 t46 t47 t48 t49)(a:∀j,j<16->L.getD j false=true):Pe B g N v n p0 (611) G W t9 t10:=by
 obtain⟨p3,h1,h2,h3⟩:=h.rd;rw[a 2 (by omega),a 5 (by omega),a 8 (by omega)]at h2;obtain⟨x,o,M,R⟩:=h.s9 (a 9 (by omega));obtain⟨q,k2,n2,e0,e1,e2,e3,Y,H,I,A,O⟩:=h.s14 (a 14 (by omega));obtain⟨S,U,s,J⟩:=h.s15 (a 15 (by omega));rw[M]at A s;simp only[E8,Fl,Fj,and_true]at A s;obtain⟨rfl,rfl⟩:=A;obtain⟨rfl,rfl⟩:=s;exact⟨q,k2,n2,e0,e1,e2,e3,p3,H,I,O,by rw[J];exact R.wk fun z D _=>⟨D.1,fun e=>D.2 (a 13 (by omega)) (by rw[H,e])⟩,h1,by simp only[fu]at h2;omega,h3⟩
end
def Lz (B g N:Nat)(v:gD)(n:Nat)(p0:Int)(G:SS->Prop)(SV FV:gD)(b:Nat)(f0 f1 y1 y4 y11 y12 y13 y14 y15 y16 y17 y18 y52 y53 y54 y55 y56 y57 y58 y59 y60 y61 y62 y63 y64 y65 y66 y67 y68 y69 y70 y71 y72 y73 y74 y75 y76 y77 y78 y79 y80 y81 y82:gD)(W0:gM)(L:Array Bool)(a:Act)(W:gM):Prop:=
 L.size=16/\Bx g W0 W/\∃z6 z7 z8 z19 z20 z21 z22 z23 z24 z25 z26 z27 z28 z29 z30 z31 z32 z33 z34 z35 z36 z50 z51 t9 t10 t37 t38 t39 t40 t41 t42 t43 t44 t45 t46 t47 t48 t49:gD,
  a={ tmps:=#[.pointer (some ⟨g,0,none⟩),y1,f0,.pointer (some ⟨b,0,none⟩),y4,f1,z6,z7,z8,t9,t10,y11,y12,y13,y14,y15,y16,y17,y18,z19,z20,z21,z22,z23,z24,z25,z26,z27,z28,z29,z30,z31,z32,z33,z34,z35,z36,t37,t38,t39,t40,t41,t42,t43,t44,t45,t46,t47,t48,t49,z50,z51,y52,y53,y54,y55,y56,y57,y58,y59,y60,y61,y62,y63,y64,y65,y66,y67,y68,y69,y70,y71,y72,y73,y74,y75,y76,y77,y78,y79,y80,y81,y82],defers:=[] }/\fC B g N v n p0 G SV FV b L W t9 t10 t37 t38 t39 t40 t41 t42 t43 t44 t45 t46 t47 t48 t49
theorem fV {B g N:Nat}{v:gD}{n:Nat}{p0:Int}{G:SS->Prop}{SV FV:gD}{b:Nat}{y4 z1 z0 y8 y7 y6 y5 y3 y2 y0 x9 x8 x7 x6 x5 x4 x3 x2 x1 x0 h9 Z Y U R O M J I H D A s a:gD}{L:Array Bool}{W':gM}{t9 t10 t37 t38 t39 t40 t41 t42 t43 t44 t45 t46 t47 t48 t49:gD}{z6 z7 z8 v7 v6 v5 v4 v3 v2 v1 v0 z9 z5 z4 z3:gD}(v9:L.size=16)(hx:Bx g W0 W')(S:fC B g N v n p0 G SV FV b (L.setIfInBounds i true) W' t9 t10 t37 t38 t39 t40 t41 t42 t43 t44 t45 t46 t47 t48 t49):
  Lz B g N v n p0 G SV FV b f0 f1 y1 y4 y11 y12 y13 y14 z1 z0 y8 y7 y52 y53 y6 y5 y3 y2 y0 x9 x8 x7 x6 x5 x4 x3 x2 x1 x0 h9 Z Y U R O M J I H D A s a W0 (L.setIfInBounds i true) { tmps:=#[.pointer (some ⟨g,0,none⟩),y1,f0,.pointer (some ⟨b,0,none⟩),y4,f1,z6,z7,z8,t9,t10,y11,y12,y13,y14,z1,z0,y8,y7,z19,z20,z21,z22,z23,z24,z25,v7,v6,v5,v4,v3,v2,v1,v0,z9,z5,z4,t37,t38,t39,t40,t41,t42,t43,t44,t45,t46,t47,t48,t49,z50,z3,y52,y53,y6,y5,y3,y2,y0,x9,x8,x7,x6,x5,x4,x3,x2,x1,x0,h9,Z,Y,U,R,O,M,J,I,H,D,A,s,a],defers:=[] } W':=
 ⟨by simp[v9],hx,_,_,_,_,_,_,_,_,_,_,_,_,_,_,_,_,_,_,_,_,_,_,_,_,_,_,_,_,_,_,_,_,_,_,_,_,_,_,rfl,S⟩
structure dX (B g N:Nat)(v:gD)(n:Nat)(p0:Int)(G:SS->Prop)(SV FV:gD)(b:Nat)(L:Array Bool)(W:gM)(t8 t9 t10 t33 t34 t35 t36 t37 t38 t39 t40 t41 t42 t43 t44 t45 t46 t47 t48:gD):Prop where
 rd:∃p3:Int,p0<=p3/\p3<=p0+(fu (L.getD 4 false) 1+fu (L.getD 7 false) 1)/\Rd B W g v n p3
 s0:L.getD 0 false=true->t34=SV
 s1:L.getD 1 false=true->t35=.pointer (some ⟨b,4,none⟩)
 s2:L.getD 2 false=true->t36=FV
 s3:L.getD 3 false=true->t37=.pointer (some ⟨g,0,none⟩)
 s4:L.getD 4 false=true->∃k:Int,t38=.int .i64 k/\0<=k/\k<4
 s5:L.getD 5 false=true->∃k:Int,t39=.int .i64 k
 s6:L.getD 6 false=true->t40=.pointer (some ⟨g,0,none⟩)
 s7:L.getD 7 false=true->∃k:Int,t41=.int .i64 k/\0<=k/\k<3
 s8:L.getD 8 false=true->∃x y:Int,t42=tv x y
 s9:L.getD 9 false=true->∃f:LI,f.length<=1000/\bW W N t43 f
 s10:L.getD 10 false=true->∃f:LI,f.length<=1000/\bW W N t44 f
 s11:L.getD 11 false=true->∃x m o:gD,t45=.tuple #[x,m,o]/\nS G W (fun z=>N<=z/\(L.getD 16 false=true->t8≠ .pointer (some ⟨z,0,none⟩))) x o
 s12:L.getD 12 false=true->t33=t45
 s13:L.getD 13 false=true->∃x m o:gD,t45=.tuple #[x,m,o]/\t46=x
 s14:L.getD 14 false=true->∃x m o:gD,t45=.tuple #[x,m,o]/\t47=m
 s15:L.getD 15 false=true->∃x m o:gD,t45=.tuple #[x,m,o]/\t48=o
 s16:L.getD 16 false=true->∃q:Nat,t8=.pointer (some ⟨q,0,none⟩)/\N<=q
 s17:L.getD 17 false=true->∃(q:Nat)(k2 n2:Int)(e0 e1 e2 e3:gD)(m o:gD),t8=.pointer (some ⟨q,0,none⟩)/\N<=q/\t45=.tuple #[sv k2 n2 e0 e1 e2 e3,m,o]/\Bk W q #[.int .i64 k2,.int .i64 n2,e0,e1,e2,e3] 30
 s18:L.getD 18 false=true->∃x m o:gD,t45=.tuple #[x,m,o]/\t9=m
 s19:L.getD 19 false=true->∃x m o:gD,t45=.tuple #[x,m,o]/\t10=o
 c12:L.getD 12 false=true->L.getD 11 false=true
 c13:L.getD 13 false=true->L.getD 11 false=true
 c14:L.getD 14 false=true->L.getD 11 false=true
 c15:L.getD 15 false=true->L.getD 11 false=true
 c17:L.getD 17 false=true->L.getD 11 false=true
 c18:L.getD 18 false=true->L.getD 11 false=true
 c19:L.getD 19 false=true->L.getD 11 false=true
 d:L.getD 17 false=true->L.getD 16 false=true
 z:L.getD 16 false=true->L.getD 17 true=false->∃q:Nat,t8=.pointer (some ⟨q,0,none⟩)/\N<=q/\Bk W q #[.int .i64 0,.int .i64 0,.slice none 0 0,.slice none 0 0,.slice none 0 0,.slice none 0 0] 30
section
variable {B g N:Nat}{v:gD}{n:Nat}{p0:Int}{G:SS->Prop}{SV FV:gD}{b:Nat}{L:Array Bool}{W W':gM}{t8 t9 t10 t33 t34 t35 t36 t37 t38 t39 t40 t41 t42 t43 t44 t45 t46 t47 t48:gD}
theorem dX.keep (h:dX B g N v n p0 G SV FV b L W t8 t9 t10 t33 t34 t35 t36 t37 t38 t39 t40 t41 t42 t43 t44 t45 t46 t47 t48)(a:iM W.heap.size W W')(hg:g<N):dX B g N v n p0 G SV FV b L W' t8 t9 t10 t33 t34 t35 t36 t37 t38 t39 t40 t41 t42 t43 t44 t45 t46 t47 t48 where
 rd:=by obtain⟨p3,h1,h2,h3⟩:=h.rd;exact⟨p3,h1,h2,h3.aa a⟩
 s0:=h.s0
 s1:=h.s1
 s2:=h.s2
 s3:=h.s3
 s4:=h.s4
 s5:=h.s5
 s6:=h.s6
 s7:=h.s7
 s8:=h.s8
 s9:=fun e=>by have hx:Bx g W W':=Bx.aD a;exact (by obtain⟨D,A,s⟩:=h.s9 e;exact⟨D,A,oX s hx hg⟩)
 s10:=fun e=>by have hx:Bx g W W':=Bx.aD a;exact (by obtain⟨D,A,s⟩:=h.s10 e;exact⟨D,A,oX s hx hg⟩)
 s11:=fun e=>by have hx:Bx g W W':=Bx.aD a;exact (by obtain⟨x,m,o,e1,I⟩:=h.s11 e;exact⟨x,m,o,e1,I.move (fun z H hl=>⟨H,hx.block z hl (by have:=H.1;omega)⟩) hx.size⟩)
 s12:=h.s12
 s13:=h.s13
 s14:=h.s14
 s15:=h.s15
 s16:=h.s16
 s17:=fun e=>by have hx:Bx g W W':=Bx.aD a;exact (by obtain⟨q,k2,n2,e0,e1,e2,e3,m,o,h1,h2,h3,h4⟩:=h.s17 e;exact⟨q,k2,n2,e0,e1,e2,e3,m,o,h1,h2,h3,h4.aN hx (by omega)⟩)
 s18:=h.s18
 s19:=h.s19
 c12:=h.c12
 c13:=h.c13
 c14:=h.c14
 c15:=h.c15
 c17:=h.c17
 c18:=h.c18
 c19:=h.c19
 d:=h.d
 z:=fun e1 e2=>by obtain⟨q,h1,h2,h3⟩:=h.z e1 e2;exact⟨q,h1,h2,h3.keep a⟩
theorem dX.aw (h:dX B g N v n p0 G SV FV b L W t8 t9 t10 t33 t34 t35 t36 t37 t38 t39 t40 t41 t42 t43 t44 t45 t46 t47 t48)(s:u=SV):dX B g N v n p0 G SV FV b (L.setIfInBounds 0 true) W t8 t9 t10 t33 u t35 t36 t37 t38 t39 t40 t41 t42 t43 t44 t45 t46 t47 t48:=by
 have A:=h;cases A;constructor
 case rd=>exact by obtain⟨p3,h1,h2,h3⟩:=h.rd;exact⟨p3,h1,by rw[fN (i:=0) (j:=4) (by decide),fN (i:=0) (j:=7) (by decide)];exact h2,h3⟩
 case s0=>exact fun _=>s
 case s11=>exact fun e=>by obtain⟨x,m,o,e1,D⟩:=h.s11 (gS e);exact⟨x,m,o,e1,D.wk fun z a _=>⟨a.1,fun e=>a.2 (gS e)⟩⟩
 all_goals (intro e;replace e:=gS e;first|solve_by_elim|exact getD_upV (by solve_by_elim)|(intro e2;replace e2:=gT e2;solve_by_elim))
theorem dX.au (h:dX B g N v n p0 G SV FV b L W t8 t9 t10 t33 t34 t35 t36 t37 t38 t39 t40 t41 t42 t43 t44 t45 t46 t47 t48)(s:u=.pointer (some ⟨b,4,none⟩)):dX B g N v n p0 G SV FV b (L.setIfInBounds 1 true) W t8 t9 t10 t33 t34 u t36 t37 t38 t39 t40 t41 t42 t43 t44 t45 t46 t47 t48:=by
 have A:=h;cases A;constructor
 case rd=>exact by obtain⟨p3,h1,h2,h3⟩:=h.rd;exact⟨p3,h1,by rw[fN (i:=1) (j:=4) (by decide),fN (i:=1) (j:=7) (by decide)];exact h2,h3⟩
 case s1=>exact fun _=>s
 case s11=>exact fun e=>by obtain⟨x,m,o,e1,D⟩:=h.s11 (gS e);exact⟨x,m,o,e1,D.wk fun z a _=>⟨a.1,fun e=>a.2 (gS e)⟩⟩
 all_goals (intro e;replace e:=gS e;first|solve_by_elim|exact getD_upV (by solve_by_elim)|(intro e2;replace e2:=gT e2;solve_by_elim))
theorem dX.ar (h:dX B g N v n p0 G SV FV b L W t8 t9 t10 t33 t34 t35 t36 t37 t38 t39 t40 t41 t42 t43 t44 t45 t46 t47 t48)(s:u=FV):dX B g N v n p0 G SV FV b (L.setIfInBounds 2 true) W t8 t9 t10 t33 t34 t35 u t37 t38 t39 t40 t41 t42 t43 t44 t45 t46 t47 t48:=by
 have A:=h;cases A;constructor
 case rd=>exact by obtain⟨p3,h1,h2,h3⟩:=h.rd;exact⟨p3,h1,by rw[fN (i:=2) (j:=4) (by decide),fN (i:=2) (j:=7) (by decide)];exact h2,h3⟩
 case s2=>exact fun _=>s
 case s11=>exact fun e=>by obtain⟨x,m,o,e1,D⟩:=h.s11 (gS e);exact⟨x,m,o,e1,D.wk fun z a _=>⟨a.1,fun e=>a.2 (gS e)⟩⟩
 all_goals (intro e;replace e:=gS e;first|solve_by_elim|exact getD_upV (by solve_by_elim)|(intro e2;replace e2:=gT e2;solve_by_elim))
theorem dX.aq (h:dX B g N v n p0 G SV FV b L W t8 t9 t10 t33 t34 t35 t36 t37 t38 t39 t40 t41 t42 t43 t44 t45 t46 t47 t48)(s:u=.pointer (some ⟨g,0,none⟩)):dX B g N v n p0 G SV FV b (L.setIfInBounds 3 true) W t8 t9 t10 t33 t34 t35 t36 u t38 t39 t40 t41 t42 t43 t44 t45 t46 t47 t48:=by
 have A:=h;cases A;constructor
 case rd=>exact by obtain⟨p3,h1,h2,h3⟩:=h.rd;exact⟨p3,h1,by rw[fN (i:=3) (j:=4) (by decide),fN (i:=3) (j:=7) (by decide)];exact h2,h3⟩
 case s3=>exact fun _=>s
 case s11=>exact fun e=>by obtain⟨x,m,o,e1,D⟩:=h.s11 (gS e);exact⟨x,m,o,e1,D.wk fun z a _=>⟨a.1,fun e=>a.2 (gS e)⟩⟩
 all_goals (intro e;replace e:=gS e;first|solve_by_elim|exact getD_upV (by solve_by_elim)|(intro e2;replace e2:=gT e2;solve_by_elim))
theorem dX.be (hg:g<N)(O:L.size=20)(H:L.getD 4 true=false)(h:dX B g N v n p0 G SV FV b L W t8 t9 t10 t33 t34 t35 t36 t37 t38 t39 t40 t41 t42 t43 t44 t45 t46 t47 t48)(hx:Bx g W W')(h1:p0<=p3)(h2:p3<=p0+(fu (L.getD 4 false) 1+fu (L.getD 7 false) 1))(h3:p3<=p4)(h4:p4<=p3+1)(hr:Rd B W' g v n p4)(I:∃k:Int,u=.int .i64 k/\0<=k/\k<4):dX B g N v n p0 G SV FV b (L.setIfInBounds 4 true) W' t8 t9 t10 t33 t34 t35 t36 t37 u t39 t40 t41 t42 t43 t44 t45 t46 t47 t48:=by
 have J:=h;cases J;constructor
 case rd=>exact⟨p4,by omega,by rw[sI (i:=4) (by omega),fN (i:=4) (j:=7) (by decide)];rw[zG H]at h2;omega,hr⟩
 case s4=>exact fun _=>I
 case s9=>exact fun e=>(by obtain⟨D,A,a⟩:=h.s9 (gS e);exact⟨D,A,oX a hx hg⟩)
 case s10=>exact fun e=>(by obtain⟨D,A,a⟩:=h.s10 (gS e);exact⟨D,A,oX a hx hg⟩)
 case s11=>exact fun e=>by obtain⟨x,m,o,e1,M⟩:=h.s11 (gS e);exact⟨x,m,o,e1,M.move (fun z s hl=>⟨⟨s.1,fun e=>s.2 (gS e)⟩,hx.block z hl (by have:=s.1;omega)⟩) hx.size⟩
 case s17=>exact fun e=>(by obtain⟨q,k2,n2,e0,e1,e2,e3,m,o,h1,h2,h3,h4⟩:=h.s17 (gS e);exact⟨q,k2,n2,e0,e1,e2,e3,m,o,h1,h2,h3,h4.aN hx (by omega)⟩)
 case z=>exact fun e1 e2=>by obtain⟨q,h1,h2,h3⟩:=h.z (gS e1) (gT e2);exact⟨q,h1,h2,h3.aN hx (by omega)⟩
 all_goals (intro e;replace e:=gS e;first|solve_by_elim|exact getD_upV (by solve_by_elim))
theorem dX.cb (h:dX B g N v n p0 G SV FV b L W t8 t9 t10 t33 t34 t35 t36 t37 t38 t39 t40 t41 t42 t43 t44 t45 t46 t47 t48)(s:∃k:Int,u=.int .i64 k):dX B g N v n p0 G SV FV b (L.setIfInBounds 5 true) W t8 t9 t10 t33 t34 t35 t36 t37 t38 u t40 t41 t42 t43 t44 t45 t46 t47 t48:=by
 have A:=h;cases A;constructor
 case rd=>exact by obtain⟨p3,h1,h2,h3⟩:=h.rd;exact⟨p3,h1,by rw[fN (i:=5) (j:=4) (by decide),fN (i:=5) (j:=7) (by decide)];exact h2,h3⟩
 case s5=>exact fun _=>s
 case s11=>exact fun e=>by obtain⟨x,m,o,e1,D⟩:=h.s11 (gS e);exact⟨x,m,o,e1,D.wk fun z a _=>⟨a.1,fun e=>a.2 (gS e)⟩⟩
 all_goals (intro e;replace e:=gS e;first|solve_by_elim|exact getD_upV (by solve_by_elim)|(intro e2;replace e2:=gT e2;solve_by_elim))
theorem dX.ca (h:dX B g N v n p0 G SV FV b L W t8 t9 t10 t33 t34 t35 t36 t37 t38 t39 t40 t41 t42 t43 t44 t45 t46 t47 t48)(s:u=.pointer (some ⟨g,0,none⟩)):dX B g N v n p0 G SV FV b (L.setIfInBounds 6 true) W t8 t9 t10 t33 t34 t35 t36 t37 t38 t39 u t41 t42 t43 t44 t45 t46 t47 t48:=by
 have A:=h;cases A;constructor
 case rd=>exact by obtain⟨p3,h1,h2,h3⟩:=h.rd;exact⟨p3,h1,by rw[fN (i:=6) (j:=4) (by decide),fN (i:=6) (j:=7) (by decide)];exact h2,h3⟩
 case s6=>exact fun _=>s
 case s11=>exact fun e=>by obtain⟨x,m,o,e1,D⟩:=h.s11 (gS e);exact⟨x,m,o,e1,D.wk fun z a _=>⟨a.1,fun e=>a.2 (gS e)⟩⟩
 all_goals (intro e;replace e:=gS e;first|solve_by_elim|exact getD_upV (by solve_by_elim)|(intro e2;replace e2:=gT e2;solve_by_elim))
theorem dX.cZ (hg:g<N)(O:L.size=20)(H:L.getD 7 true=false)(h:dX B g N v n p0 G SV FV b L W t8 t9 t10 t33 t34 t35 t36 t37 t38 t39 t40 t41 t42 t43 t44 t45 t46 t47 t48)(hx:Bx g W W')(h1:p0<=p3)(h2:p3<=p0+(fu (L.getD 4 false) 1+fu (L.getD 7 false) 1))(h3:p3<=p4)(h4:p4<=p3+1)(hr:Rd B W' g v n p4)(I:∃k:Int,u=.int .i64 k/\0<=k/\k<3):dX B g N v n p0 G SV FV b (L.setIfInBounds 7 true) W' t8 t9 t10 t33 t34 t35 t36 t37 t38 t39 t40 u t42 t43 t44 t45 t46 t47 t48:=by
 have J:=h;cases J;constructor
 case rd=>exact⟨p4,by omega,by rw[fN (i:=7) (j:=4) (by decide),sI (i:=7) (by omega)];rw[zG H]at h2;omega,hr⟩
 case s7=>exact fun _=>I
 case s9=>exact fun e=>(by obtain⟨D,A,a⟩:=h.s9 (gS e);exact⟨D,A,oX a hx hg⟩)
 case s10=>exact fun e=>(by obtain⟨D,A,a⟩:=h.s10 (gS e);exact⟨D,A,oX a hx hg⟩)
 case s11=>exact fun e=>by obtain⟨x,m,o,e1,M⟩:=h.s11 (gS e);exact⟨x,m,o,e1,M.move (fun z s hl=>⟨⟨s.1,fun e=>s.2 (gS e)⟩,hx.block z hl (by have:=s.1;omega)⟩) hx.size⟩
 case s17=>exact fun e=>(by obtain⟨q,k2,n2,e0,e1,e2,e3,m,o,h1,h2,h3,h4⟩:=h.s17 (gS e);exact⟨q,k2,n2,e0,e1,e2,e3,m,o,h1,h2,h3,h4.aN hx (by omega)⟩)
 case z=>exact fun e1 e2=>by obtain⟨q,h1,h2,h3⟩:=h.z (gS e1) (gT e2);exact⟨q,h1,h2,h3.aN hx (by omega)⟩
 all_goals (intro e;replace e:=gS e;first|solve_by_elim|exact getD_upV (by solve_by_elim))
theorem dX.cN (h:dX B g N v n p0 G SV FV b L W t8 t9 t10 t33 t34 t35 t36 t37 t38 t39 t40 t41 t42 t43 t44 t45 t46 t47 t48)(s:∃x y:Int,u=tv x y):dX B g N v n p0 G SV FV b (L.setIfInBounds 8 true) W t8 t9 t10 t33 t34 t35 t36 t37 t38 t39 t40 t41 u t43 t44 t45 t46 t47 t48:=by
 have A:=h;cases A;constructor
 case rd=>exact by obtain⟨p3,h1,h2,h3⟩:=h.rd;exact⟨p3,h1,by rw[fN (i:=8) (j:=4) (by decide),fN (i:=8) (j:=7) (by decide)];exact h2,h3⟩
 case s8=>exact fun _=>s
 case s11=>exact fun e=>by obtain⟨x,m,o,e1,D⟩:=h.s11 (gS e);exact⟨x,m,o,e1,D.wk fun z a _=>⟨a.1,fun e=>a.2 (gS e)⟩⟩
 all_goals (intro e;replace e:=gS e;first|solve_by_elim|exact getD_upV (by solve_by_elim)|(intro e2;replace e2:=gT e2;solve_by_elim))
theorem dX.cg (h:dX B g N v n p0 G SV FV b L W t8 t9 t10 t33 t34 t35 t36 t37 t38 t39 t40 t41 t42 t43 t44 t45 t46 t47 t48)(s:∃f:LI,f.length<=1000/\bW W N u f):dX B g N v n p0 G SV FV b (L.setIfInBounds 9 true) W t8 t9 t10 t33 t34 t35 t36 t37 t38 t39 t40 t41 t42 u t44 t45 t46 t47 t48:=by
 have A:=h;cases A;constructor
 case rd=>exact by obtain⟨p3,h1,h2,h3⟩:=h.rd;exact⟨p3,h1,by rw[fN (i:=9) (j:=4) (by decide),fN (i:=9) (j:=7) (by decide)];exact h2,h3⟩
 case s9=>exact fun _=>s
 case s11=>exact fun e=>by obtain⟨x,m,o,e1,D⟩:=h.s11 (gS e);exact⟨x,m,o,e1,D.wk fun z a _=>⟨a.1,fun e=>a.2 (gS e)⟩⟩
 all_goals (intro e;replace e:=gS e;first|solve_by_elim|exact getD_upV (by solve_by_elim)|(intro e2;replace e2:=gT e2;solve_by_elim))
theorem dX.bQ (h:dX B g N v n p0 G SV FV b L W t8 t9 t10 t33 t34 t35 t36 t37 t38 t39 t40 t41 t42 t43 t44 t45 t46 t47 t48)(s:∃f:LI,f.length<=1000/\bW W N u f):dX B g N v n p0 G SV FV b (L.setIfInBounds 10 true) W t8 t9 t10 t33 t34 t35 t36 t37 t38 t39 t40 t41 t42 t43 u t45 t46 t47 t48:=by
 have A:=h;cases A;constructor
 case rd=>exact by obtain⟨p3,h1,h2,h3⟩:=h.rd;exact⟨p3,h1,by rw[fN (i:=10) (j:=4) (by decide),fN (i:=10) (j:=7) (by decide)];exact h2,h3⟩
 case s10=>exact fun _=>s
 case s11=>exact fun e=>by obtain⟨x,m,o,e1,D⟩:=h.s11 (gS e);exact⟨x,m,o,e1,D.wk fun z a _=>⟨a.1,fun e=>a.2 (gS e)⟩⟩
 all_goals (intro e;replace e:=gS e;first|solve_by_elim|exact getD_upV (by solve_by_elim)|(intro e2;replace e2:=gT e2;solve_by_elim))
theorem dX.bL (a:L.getD 11 false=true->False)(h:dX B g N v n p0 G SV FV b L W t8 t9 t10 t33 t34 t35 t36 t37 t38 t39 t40 t41 t42 t43 t44 t45 t46 t47 t48)(A:∃x m o:gD,u=.tuple #[x,m,o]/\nS G W (fun z=>N<=z/\(L.getD 16 false=true->t8≠ .pointer (some ⟨z,0,none⟩))) x o):dX B g N v n p0 G SV FV b (L.setIfInBounds 11 true) W t8 t9 t10 t33 t34 t35 t36 t37 t38 t39 t40 t41 t42 t43 t44 u t46 t47 t48:=by
 have D:=h;cases D;constructor
 case rd=>exact by obtain⟨p3,h1,h2,h3⟩:=h.rd;exact⟨p3,h1,by rw[fN (i:=11) (j:=4) (by decide),fN (i:=11) (j:=7) (by decide)];exact h2,h3⟩
 case s11=>exact fun _=>by obtain⟨x,m,o,e1,H⟩:=A;exact⟨x,m,o,e1,H.wk fun z s _=>⟨s.1,fun e=>s.2 (gS e)⟩⟩
 case s12=>exact fun e=>(a (h.c12 (gS e))).elim
 case s13=>exact fun e=>(a (h.c13 (gS e))).elim
 case s14=>exact fun e=>(a (h.c14 (gS e))).elim
 case s15=>exact fun e=>(a (h.c15 (gS e))).elim
 case s17=>exact fun e=>(a (h.c17 (gS e))).elim
 case s18=>exact fun e=>(a (h.c18 (gS e))).elim
 case s19=>exact fun e=>(a (h.c19 (gS e))).elim
 all_goals (intro e;replace e:=gS e;first|solve_by_elim|exact getD_upV (by solve_by_elim)|(intro e2;replace e2:=gT e2;solve_by_elim))
theorem dX.az (hl:L.getD 11 false=true)(h:dX B g N v n p0 G SV FV b L W t8 t9 t10 t33 t34 t35 t36 t37 t38 t39 t40 t41 t42 t43 t44 t45 t46 t47 t48)(s:u=t45):dX B g N v n p0 G SV FV b (L.setIfInBounds 12 true) W t8 t9 t10 u t34 t35 t36 t37 t38 t39 t40 t41 t42 t43 t44 t45 t46 t47 t48:=by
 have A:=h;cases A;constructor
 case rd=>exact by obtain⟨p3,h1,h2,h3⟩:=h.rd;exact⟨p3,h1,by rw[fN (i:=12) (j:=4) (by decide),fN (i:=12) (j:=7) (by decide)];exact h2,h3⟩
 case s12=>exact fun _=>s
 case s11=>exact fun e=>by obtain⟨x,m,o,e1,D⟩:=h.s11 (gS e);exact⟨x,m,o,e1,D.wk fun z a _=>⟨a.1,fun e=>a.2 (gS e)⟩⟩
 case c12=>exact fun e=>getD_upV (hl)
 all_goals (intro e;replace e:=gS e;first|solve_by_elim|exact getD_upV (by solve_by_elim)|(intro e2;replace e2:=gT e2;solve_by_elim))
theorem dX.bu (hl:L.getD 11 false=true)(h:dX B g N v n p0 G SV FV b L W t8 t9 t10 t33 t34 t35 t36 t37 t38 t39 t40 t41 t42 t43 t44 t45 t46 t47 t48)(s:∃x m o:gD,t45=.tuple #[x,m,o]/\u=x):dX B g N v n p0 G SV FV b (L.setIfInBounds 13 true) W t8 t9 t10 t33 t34 t35 t36 t37 t38 t39 t40 t41 t42 t43 t44 t45 u t47 t48:=by
 have A:=h;cases A;constructor
 case rd=>exact by obtain⟨p3,h1,h2,h3⟩:=h.rd;exact⟨p3,h1,by rw[fN (i:=13) (j:=4) (by decide),fN (i:=13) (j:=7) (by decide)];exact h2,h3⟩
 case s13=>exact fun _=>s
 case s11=>exact fun e=>by obtain⟨x,m,o,e1,D⟩:=h.s11 (gS e);exact⟨x,m,o,e1,D.wk fun z a _=>⟨a.1,fun e=>a.2 (gS e)⟩⟩
 case c13=>exact fun e=>getD_upV (hl)
 all_goals (intro e;replace e:=gS e;first|solve_by_elim|exact getD_upV (by solve_by_elim)|(intro e2;replace e2:=gT e2;solve_by_elim))
theorem dX.cq (hl:L.getD 11 false=true)(h:dX B g N v n p0 G SV FV b L W t8 t9 t10 t33 t34 t35 t36 t37 t38 t39 t40 t41 t42 t43 t44 t45 t46 t47 t48)(s:∃x m o:gD,t45=.tuple #[x,m,o]/\u=m):dX B g N v n p0 G SV FV b (L.setIfInBounds 14 true) W t8 t9 t10 t33 t34 t35 t36 t37 t38 t39 t40 t41 t42 t43 t44 t45 t46 u t48:=by
 have A:=h;cases A;constructor
 case rd=>exact by obtain⟨p3,h1,h2,h3⟩:=h.rd;exact⟨p3,h1,by rw[fN (i:=14) (j:=4) (by decide),fN (i:=14) (j:=7) (by decide)];exact h2,h3⟩
 case s14=>exact fun _=>s
 case s11=>exact fun e=>by obtain⟨x,m,o,e1,D⟩:=h.s11 (gS e);exact⟨x,m,o,e1,D.wk fun z a _=>⟨a.1,fun e=>a.2 (gS e)⟩⟩
 case c14=>exact fun e=>getD_upV (hl)
 all_goals (intro e;replace e:=gS e;first|solve_by_elim|exact getD_upV (by solve_by_elim)|(intro e2;replace e2:=gT e2;solve_by_elim))
theorem dX.ct (hl:L.getD 11 false=true)(h:dX B g N v n p0 G SV FV b L W t8 t9 t10 t33 t34 t35 t36 t37 t38 t39 t40 t41 t42 t43 t44 t45 t46 t47 t48)(s:∃x m o:gD,t45=.tuple #[x,m,o]/\u=o):dX B g N v n p0 G SV FV b (L.setIfInBounds 15 true) W t8 t9 t10 t33 t34 t35 t36 t37 t38 t39 t40 t41 t42 t43 t44 t45 t46 t47 u:=by
 have A:=h;cases A;constructor
 case rd=>exact by obtain⟨p3,h1,h2,h3⟩:=h.rd;exact⟨p3,h1,by rw[fN (i:=15) (j:=4) (by decide),fN (i:=15) (j:=7) (by decide)];exact h2,h3⟩
 case s15=>exact fun _=>s
 case s11=>exact fun e=>by obtain⟨x,m,o,e1,D⟩:=h.s11 (gS e);exact⟨x,m,o,e1,D.wk fun z a _=>⟨a.1,fun e=>a.2 (gS e)⟩⟩
 case c15=>exact fun e=>getD_upV (hl)
 all_goals (intro e;replace e:=gS e;first|solve_by_elim|exact getD_upV (by solve_by_elim)|(intro e2;replace e2:=gT e2;solve_by_elim))
theorem dX.dT (J:L.size=20)(s:L.getD 16 true=false)(h0:dX B g N v n p0 G SV FV b L W t8 t9 t10 t33 t34 t35 t36 t37 t38 t39 t40 t41 t42 t43 t44 t45 t46 t47 t48)(D:N<=W.heap.size)(hg:g<N)(a:iM W.heap.size W W')(A:Bk W' W.heap.size #[.int .i64 0,.int .i64 0,.slice none 0 0,.slice none 0 0,.slice none 0 0,.slice none 0 0] 30):dX B g N v n p0 G SV FV b (L.setIfInBounds 16 true) W' (.pointer (some ⟨W.heap.size,0,none⟩)) t9 t10 t33 t34 t35 t36 t37 t38 t39 t40 t41 t42 t43 t44 t45 t46 t47 t48:=by
 have h:=h0.keep a hg;exact {
  rd:=by obtain⟨p3,h1,h2,h3⟩:=h.rd;exact⟨p3,h1,by rw[fN (i:=16) (j:=4) (by decide),fN (i:=16) (j:=7) (by decide)];exact h2,h3⟩,
  s0:=fun e=>h.s0 (gS e),
  s1:=fun e=>h.s1 (gS e),
  s2:=fun e=>h.s2 (gS e),
  s3:=fun e=>h.s3 (gS e),
  s4:=fun e=>h.s4 (gS e),
  s5:=fun e=>h.s5 (gS e),
  s6:=fun e=>h.s6 (gS e),
  s7:=fun e=>h.s7 (gS e),
  s8:=fun e=>h.s8 (gS e),
  s9:=fun e=>h.s9 (gS e),
  s10:=fun e=>h.s10 (gS e),
  s11:=fun e=>by obtain⟨x,m,o,e1,I⟩:=h0.s11 (gS e);exact⟨x,m,o,e1,I.move (fun z H hl=>⟨⟨H.1,fun _ e=>by have:=congrArg Addr.block (AP (Df e));simp at this;omega⟩,a.block z hl⟩) a.size⟩,
  s12:=fun e=>h.s12 (gS e),
  s13:=fun e=>h.s13 (gS e),
  s14:=fun e=>h.s14 (gS e),
  s15:=fun e=>h.s15 (gS e),
  s16:=fun _=>⟨_,rfl,D⟩,
  s17:=fun e=>(gN (h.d (gS e)) s).elim,
  s18:=fun e=>h.s18 (gS e),
  s19:=fun e=>h.s19 (gS e),
  c12:=fun e=>getD_upV (h.c12 (gS e)),
  c13:=fun e=>getD_upV (h.c13 (gS e)),
  c14:=fun e=>getD_upV (h.c14 (gS e)),
  c15:=fun e=>getD_upV (h.c15 (gS e)),
  c17:=fun e=>getD_upV (h.c17 (gS e)),
  c18:=fun e=>getD_upV (h.c18 (gS e)),
  c19:=fun e=>getD_upV (h.c19 (gS e)),
  d:=fun _=>gH (by omega),
  z:=fun _ _=>⟨_,rfl,D,A⟩ }
theorem dX.dO {m:gD}(Y:L.size=20)(hl:L.getD 11 false=true)(s:L.getD 16 false=true)(h:dX B g N v n p0 G SV FV b L W t8 t9 t10 t33 t34 t35 t36 t37 t38 t39 t40 t41 t42 t43 t44 t45 t46 t47 t48)(J:t8=.pointer (some ⟨q,0,none⟩))(O:N<=q)(S:t45=.tuple #[sv k2 n2 e0 e1 e2 e3,m,o])(hq:Bk W q #[.int .i64 0,.int .i64 0,.slice none 0 0,.slice none 0 0,.slice none 0 0,.slice none 0 0] 30)(hx:∀x,x≠q->W'.heap[x]?=W.heap[x]?)(I:W'.heap.size=W.heap.size)(hr:∀p3,Rd B W g v n p3->Rd B W' g v n p3)(M:Bk W' q #[.int .i64 k2,.int .i64 n2,e0,e1,e2,e3] 30):dX B g N v n p0 G SV FV b (L.setIfInBounds 17 true) W' t8 t9 t10 t33 t34 t35 t36 t37 t38 t39 t40 t41 t42 t43 t44 t45 t46 t47 t48:=by
 have R:=h;cases R;constructor
 case rd=>exact by obtain⟨p3,h1,h2,h3⟩:=h.rd;exact⟨p3,h1,by rw[fN (i:=17) (j:=4) (by decide),fN (i:=17) (j:=7) (by decide)];exact h2,hr p3 h3⟩
 case s9=>exact fun e=>(by obtain⟨H,D,a⟩:=h.s9 (gS e);exact⟨H,D,fB a fun z e=>hx z (by obtain⟨d,hd⟩:=n9 a e;exact bK hd hq (by decide))⟩)
 case s10=>exact fun e=>(by obtain⟨H,D,a⟩:=h.s10 (gS e);exact⟨H,D,fB a fun z e=>hx z (by obtain⟨d,hd⟩:=n9 a e;exact bK hd hq (by decide))⟩)
 case s11=>exact fun e=>(by obtain⟨x,m,o,e1,U⟩:=h.s11 (gS e);exact⟨x,m,o,e1,U.move (fun z A hl=>⟨⟨A.1,fun _=>A.2 s⟩,hx z fun e=>A.2 s (by rw[J,e])⟩) (tN I.symm)⟩)
 case s17=>exact fun _=>⟨q,k2,n2,e0,e1,e2,e3,m,o,J,O,S,M⟩
 case c17=>exact fun e=>getD_upV (hl)
 case d=>exact fun _=>getD_upV s
 case z=>exact fun _ e2=>absurd e2 (by rw[gH (by omega)];decide)
 all_goals (intro e;replace e:=gS e;first|solve_by_elim|exact getD_upV (by solve_by_elim))
theorem dX.dJ (hl:L.getD 11 false=true)(h:dX B g N v n p0 G SV FV b L W t8 t9 t10 t33 t34 t35 t36 t37 t38 t39 t40 t41 t42 t43 t44 t45 t46 t47 t48)(s:∃x m o:gD,t45=.tuple #[x,m,o]/\u=m):dX B g N v n p0 G SV FV b (L.setIfInBounds 18 true) W t8 u t10 t33 t34 t35 t36 t37 t38 t39 t40 t41 t42 t43 t44 t45 t46 t47 t48:=by
 have A:=h;cases A;constructor
 case rd=>exact by obtain⟨p3,h1,h2,h3⟩:=h.rd;exact⟨p3,h1,by rw[fN (i:=18) (j:=4) (by decide),fN (i:=18) (j:=7) (by decide)];exact h2,h3⟩
 case s18=>exact fun _=>s
 case s11=>exact fun e=>by obtain⟨x,m,o,e1,D⟩:=h.s11 (gS e);exact⟨x,m,o,e1,D.wk fun z a _=>⟨a.1,fun e=>a.2 (gS e)⟩⟩
 case c18=>exact fun e=>getD_upV (hl)
 all_goals (intro e;replace e:=gS e;first|solve_by_elim|exact getD_upV (by solve_by_elim)|(intro e2;replace e2:=gT e2;solve_by_elim))
theorem dX.dH (hl:L.getD 11 false=true)(h:dX B g N v n p0 G SV FV b L W t8 t9 t10 t33 t34 t35 t36 t37 t38 t39 t40 t41 t42 t43 t44 t45 t46 t47 t48)(s:∃x m o:gD,t45=.tuple #[x,m,o]/\u=o):dX B g N v n p0 G SV FV b (L.setIfInBounds 19 true) W t8 t9 u t33 t34 t35 t36 t37 t38 t39 t40 t41 t42 t43 t44 t45 t46 t47 t48:=by
 have A:=h;cases A;constructor
 case rd=>exact by obtain⟨p3,h1,h2,h3⟩:=h.rd;exact⟨p3,h1,by rw[fN (i:=19) (j:=4) (by decide),fN (i:=19) (j:=7) (by decide)];exact h2,h3⟩
 case s19=>exact fun _=>s
 case s11=>exact fun e=>by obtain⟨x,m,o,e1,D⟩:=h.s11 (gS e);exact⟨x,m,o,e1,D.wk fun z a _=>⟨a.1,fun e=>a.2 (gS e)⟩⟩
 case c19=>exact fun e=>getD_upV (hl)
 all_goals (intro e;replace e:=gS e;first|solve_by_elim|exact getD_upV (by solve_by_elim)|(intro e2;replace e2:=gT e2;solve_by_elim))
theorem dX.fin (h:dX B g N v n p0 G SV FV b L W t8 t9 t10 t33 t34 t35 t36 t37 t38 t39 t40 t41 t42 t43 t44 t45 t46 t47 t48)(a:∀j,j<20->L.getD j false=true):Pe B g N v n p0 (2) G W t8 t10:=by
 obtain⟨p3,h1,h2,h3⟩:=h.rd;rw[a 4 (by omega),a 7 (by omega)]at h2;obtain⟨x,m,o,M,R⟩:=h.s11 (a 11 (by omega));obtain⟨q,k2,n2,e0,e1,e2,e3,m',Y,H,I,A,O⟩:=h.s17 (a 17 (by omega));obtain⟨S,Z,U,s,J⟩:=h.s19 (a 19 (by omega));rw[M]at A s;simp only[E8,Fl,Fj,and_true]at A s;obtain⟨rfl,rfl,rfl⟩:=A;obtain⟨rfl,rfl,rfl⟩:=s;exact⟨q,k2,n2,e0,e1,e2,e3,p3,H,I,O,by rw[J];exact R.wk fun z D _=>⟨D.1,fun e=>D.2 (a 16 (by omega)) (by rw[H,e])⟩,h1,by simp only[fu]at h2;omega,h3⟩
end
def Lx (B g N:Nat)(v:gD)(n:Nat)(p0:Int)(G:SS->Prop)(SV FV:gD)(b:Nat)(f0 f1 f2 y0 y1 y11 y12 y13 y14 y51 y52 y53:gD)(W0:gM)(L:Array Bool)(a:Act)(W:gM):Prop:=
 L.size=20/\Bx g W0 W/\∃z7 z15 z16 z17 z18 z19 z20 z21 z22 z23 z24 z25 z26 z27 z28 z29 z30 z31 z32 z49 z50 t8 t9 t10 t33 t34 t35 t36 t37 t38 t39 t40 t41 t42 t43 t44 t45 t46 t47 t48:gD,
  a={ tmps:=#[y0,y1,f0,f1,.pointer (some ⟨g,0,none⟩),.pointer (some ⟨b,0,none⟩),f2,z7,t8,t9,t10,y11,y12,y13,y14,z15,z16,z17,z18,z19,z20,z21,z22,z23,z24,z25,z26,z27,z28,z29,z30,z31,z32,t33,t34,t35,t36,t37,t38,t39,t40,t41,t42,t43,t44,t45,t46,t47,t48,z49,z50,y51,y52,y53],defers:=[] }/\dX B g N v n p0 G SV FV b L W t8 t9 t10 t33 t34 t35 t36 t37 t38 t39 t40 t41 t42 t43 t44 t45 t46 t47 t48
theorem eJ {B g N:Nat}{v:gD}{n:Nat}{p0:Int}{G:SS->Prop}{SV FV:gD}{b:Nat}{f2 y0 a:gD}{L:Array Bool}{W':gM}{t8 t9 t10 t33 t34 t35 t36 t37 t38 t39 t40 t41 t42 t43 t44 t45 t46 t47 t48:gD}{z7 Z Y U R O M J I H D A s:gD}(x0:L.size=20)(hx:Bx g W0 W')(S:dX B g N v n p0 G SV FV b (L.setIfInBounds i true) W' t8 t9 t10 t33 t34 t35 t36 t37 t38 t39 t40 t41 t42 t43 t44 t45 t46 t47 t48):
  Lx B g N v n p0 G SV FV b f0 f1 f2 y0 y1 y11 y12 y13 y14 a y52 y53 W0 (L.setIfInBounds i true) { tmps:=#[y0,y1,f0,f1,.pointer (some ⟨g,0,none⟩),.pointer (some ⟨b,0,none⟩),f2,z7,t8,t9,t10,y11,y12,y13,y14,Z,Y,U,R,z19,z20,z21,z22,z23,z24,z25,O,M,J,I,H,D,A,t33,t34,t35,t36,t37,t38,t39,t40,t41,t42,t43,t44,t45,t46,t47,t48,s,z50,a,y52,y53],defers:=[] } W':=
 ⟨by simp[x0],hx,_,_,_,_,_,_,_,_,_,_,_,_,_,_,_,_,_,_,_,_,_,_,_,_,_,_,_,_,_,_,_,_,_,_,_,_,_,_,_,_,rfl,S⟩
attribute [local go_sem ↓] Go.wp_at_zero Go.wp_at_succ
structure tO (c:Int)(s:SS):Prop where
 sm:s.t.sm
 pok:cP s.t 3=true
 two:s.K.length=2
 abs:∀l∈s.K,aJ l<=c
 few:s.f.length<=8
 dl:s.d.length<=400
theorem Bi {t:PT}{B:Nat}{s:gD}(A:t.sm)(hp:cP t 3=true)(hs:dN B w t s):
  gX pU 38 #[pl t.k t.n s] w fun e a=>∃(s':SS)(sp si sf sd:gD),e=.returned (.tuple #[sv s'.t.k s'.t.n sp si sf sd,.bool true])/\tO 0 s'/\jG a (fun z=>w.heap.size+2<=z) sp si sf sd s'/\iM w.heap.size w a:=by
 refine (Bj (N9 hp) hs).mono ?_;rintro e w1 ⟨sp,si,sf,rfl,H,D⟩;exact⟨rO t,sp,si,sf,dM,rfl,⟨A,hp,rfl,fun l hl=>by simp[rO]at hl;subst hl;simp[aJ],by simp[rO],by simp[rO]⟩,H,D⟩
theorem CX {s:SS}{f:LI}{H:gD}(hd:tO c s)(h:gE w sp si sf sd s)(hf:Ts w H f)(hl:f.length<=1000):
  gX pU 23 #[sv s.t.k s.t.n sp si sf sd,H] w fun e D=>∃x m o:gD,e=.returned (.tuple #[x,m,o])/\nS (tO c) D (fun z=>w.heap.size+2<=z) x o/\iM w.heap.size w D:=by
 rcases hn:FJ s f with _|⟨s',m⟩
 ·refine (xT hn h hf).mono ?_;rintro e w1 ⟨sp,si,sf,sd,I,rfl,A,J,a⟩;exact⟨_,_,_,rfl,⟨zeroS,sp,si,sf,sd,false,rfl,rfl,(fun e=>by cases e),A⟩,a⟩
 ·obtain⟨r,h1,h2,h3,rfl,rfl⟩:=FL.1 hn;refine (vW h1 h2 h3 hl h hf).mono ?_;rintro e w1 ⟨sp,si,sf,sd,I,rfl,A,J,a⟩;exact⟨_,_,_,rfl,⟨⟨s.t,s.K,f,aV f r⟩,sp,si,sf,sd,true,rfl,rfl,fun _=>⟨hd.sm,hd.pok,hd.two,hd.abs,oS h2,tM (lS f r) (pI (fW.1 h1).2.1)⟩,A⟩,a⟩
theorem ND {K:List (List Rw)}{l:List Rw}{d:Int}(a:∀x∈K,aJ x<=c)(s:0<=c)(hl:aJ l<=d)(hd:0<=d):∀x∈kL K i l,aJ x<=c+d:=by
 intro x hx;unfold kL at hx
 rcases List.mem_or_eq_of_mem_set hx with h|h
 ·have:=a x h;omega
 ·subst h;have h1:=Fz (K.getD i []++l);rw[cV]at h1;have h2:aJ (K.getD i [])<=c:=by
   rw[nA]
   rcases hq:K[i]? with _|y
   ·simp[aJ];exact s
   ·exact a y (iP hq)
  omega
theorem CU {s:SS}{l:List Rw}{I:gD}(i:Int)(J:0<=c)(hd:tO c s)(h:gE w sp si sf sd s)(hl:Rs w I l)(ha:aJ l<=9):
  gX pU 125 #[sv s.t.k s.t.n sp si sf sd,.int .i64 i,I] w fun e H=>∃x o:gD,e=.returned (.tuple #[x,o])/\nS (tO (c+9)) H (fun z=>w.heap.size+2<=z) x o/\iM w.heap.size w H:=by
 refine (CV i h hl).mono ?_;rintro e w1 (⟨s',a,sp,si,sf,sd,rfl,D,A⟩|⟨hn,sp,si,sf,sd,rfl,D,A⟩)
 ·have M:s'=⟨s.t,kL s.K i.toNat l,s.f,s.d⟩:=by
   unfold sW at a
   split at a
   ·dsimp only at a
    split at a
    ·exact (AP a).symm
    ·cases a
   ·cases a
  subst M;exact⟨_,_,rfl,⟨⟨s.t,kL s.K i.toNat l,s.f,s.d⟩,sp,si,sf,sd,true,rfl,rfl,fun _=>⟨hd.sm,hd.pok,by simpa[kL]using hd.two,ND hd.abs J ha (by decide),hd.few,hd.dl⟩,D⟩,A⟩
 ·exact⟨_,_,rfl,⟨zeroS,sp,si,sf,sd,false,rfl,rfl,(fun e=>by cases e),D⟩,A⟩
theorem F5 {B:Nat}{g:Nat}{v:gD}{n:Nat}{m:Int}{f:LI}(h:Rd B w g v n p)(hp:0<=p)(w4:p<=700000)(hf:∀V,Bx g w V->Ts V sf f)(z1:∃a i c,sp=.slice a i c)(z3:∃a i c,si=.slice a i c)(z4:∃a i c,sd=.slice a i c):
  gX pU 75 #[.pointer (some ⟨g,0,none⟩),sv k m sp si sf sd] w fun e w'=>∃(o:gD)(f':LI),e=.returned o/\f'.length<=1000/\bW w' w.heap.size o f'/\(∃p':Int,p<=p'/\p'<=p+500/\Rd B w' g v n p')/\Bx g w w':=by
 obtain⟨S,i0,J,rfl⟩:=z1;obtain⟨R,I,c1,rfl⟩:=z3;obtain⟨M,H,c3,rfl⟩:=z4;have HF:Hid (∀V,Bx g w V->Ts V sf f):=hf;obtain⟨O,c2,rfl,-⟩:=hf w (Bx.refl _ _);have hg:=h.blk.lt;have bA:Bk (w.alloc (.cells (sc k m (.slice S i0 J) (.slice R I c1) (.slice O f.length c2) (.slice M H c3)) 30)) w.heap.size (sc k m (.slice S i0 J) (.slice R I c1) (.slice O f.length c2) (.slice M H c3)) 30:=Bk.new _ _ rfl;have x6:Bx g w (w.alloc (.cells (sc k m (.slice S i0 J) (.slice R I c1) (.slice O f.length c2) (.slice M H c3)) 30)):=(Bx.refl _ _).alloc _;have h0:=h.aa (aH (fQ _ _) (.cells (sc k m (.slice S i0 J) (.slice R I c1) (.slice O f.length c2) (.slice M H c3)) 30));have z0:w.heap.size<=(w.alloc (.cells (sc k m (.slice S i0 J) (.slice R I c1) (.slice O f.length c2) (.slice M H c3)) 30)).heap.size:=by simp
 clear h hf;go_enter Tryz.func75,Tryz.ntmps75;go_wp2_with fail;generalize (w.alloc (.cells (sc k m (.slice S i0 J) (.slice R I c1) (.slice O f.length c2) (.slice M H c3)) 30))=W0 at*;refine (F4 h0 hp (by omega)).mono ?_;rintro e w1 ⟨o1,f1,rfl,w9,Y,⟨p1,v9,v8,x8⟩,Z⟩;have y0:=bA.aN Z (by omega);have h9:=x6.trans Z;have A:bW w1 w.heap.size o1 f1:=cW Y z0;clear Y bA x6 Z h0;go_wp2_with fail;refine (pA x8 (by omega) (by omega) _ (by omega) (by omega)).mono ?_;rintro e w2 ⟨j,rfl,w8,w7,x7,D⟩;have z9:=y0.aN D (by omega);have s:=h9.trans D;have U:bW w2 w.heap.size o1 f1:=oX A D (by omega);have y8:=s.size;clear x8 y0 h9 A D
 by_cases hj:j=0
 ·subst hj;go_wp2_with fail;go_ret;exact⟨_,f1,rfl,by omega,U,⟨p1+1,by omega,by omega,x7⟩,s⟩
 ·have w6:(j==0)=false:=by simpa using hj
  obtain⟨x0,x1,x2,x3,x4,x5⟩:=z9.ae;go_wp2_with fail;refine (yY _ _ f f1 _ (HF.out _ s) (bW.ts U (by omega))).mono ?_;rintro e w3 ⟨o3,rfl,y4,x9⟩;have y5:=s.trans (Bx.aD x9);have z5:=x7.aa x9;have w5:=oS (Eb f f1);clear x0 x1 x2 x3 x4 x5;go_wp2_with fail;go_ret;exact⟨_,_,rfl,by omega,cW y4 y8,⟨p1+1,by omega,by omega,z5⟩,y5⟩
end Go.Proofs.YtbdpcngcbnoioaaGreatDoor
