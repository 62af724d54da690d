import Derived.Test.YtbdpcngcbnoioaaGreatDoorGqe
set_option maxRecDepth 100000
set_option maxHeartbeats 32000000
namespace Go.Proofs.YtbdpcngcbnoioaaGreatDoor
open Go.RowKit Go.Shelf
open Go.RowKit.Below renaming heap_setCell->fD,refl->fH
open Go renaming Value->fV,World->gY,bodyPost_ret->gZ,Calls->iC
open Go.RowKit renaming Below->jU
open _root_.List renaming mem_of_getElem?->kR,mem_singleton->kX,length_append->lI,mem_append->lY,getD_eq_getElem?_getD->mF,getElem?_eq_getElem->mJ,not_mem_nil->nU,mem_cons->oJ,cons->oO
open Go.Proofs.Tryz renaming results125->qA,prog->rN,ntmps125->sE,func125->sG
open _root_.Array renaming getElem?_setIfInBounds_ne->sH,mk->sI
open _root_.Nat renaming le_refl->wH,le_trans->wR,le_of_eq->AT
open _root_.Option renaming isSome_iff_exists->B3,some->BK
open _root_.Option.some renaming inj->E0
variable {B g i j n:Nat}{L:Array Bool}{c k p p3 p4:Int}{o sd sf si sp u v:fV}{w:gY}
attribute [local go_sem ↓] Go.wp_at_zero Go.wp_at_succ
def Nc (s:SS)(i:Int)(l:List Rw)(w:gY)(e:Ending)(w':gY):Prop:=
 (∃s',rU s i l=some s'/\∃sp si sf sd,e=.returned (.tuple #[sv s.t.k s.t.n sp si sf sd,.bool true])/\fF w' (fun z=>w.heap.size+2<=z) sp si sf sd s'/\jU w.heap.size w w') \/
 (rU s i l=none/\∃sp si sf sd,e=.returned (.tuple #[sv 0 0 sp si sf sd,.bool false])/\fF w' (fun z=>w.heap.size+2<=z) sp si sf sd zeroS/\jU w.heap.size w w')
theorem yR {s:SS}{i:Int}{l:List Rw}(h:(dI s).isSome=false\/cH i 0 1=false\/aZ l=false\/aJ s.f l≠[]):rU s i l=none:=by
 unfold rU
 rcases h with h|h|h|h<;>simp[h]
theorem NH {s:SS}{i:Int}{l:List Rw}(h1:(dI s).isSome=true)(h2:cH i 0 1=true)(h3:aZ l=true)(h4:aJ s.f l=[]):rU s i l=if (dI ⟨s.t,jS s.K i.toNat l,s.f,s.d⟩).isSome then some ⟨s.t,jS s.K i.toNat l,s.f,s.d⟩ else none:=by
 unfold rU;simp[h1,h2,h3,h4]
theorem Kl {s:SS}{l:List Rw}(A:j<s.K.length)(h:(dI ⟨s.t,jS s.K j l,s.f,s.d⟩).isSome=true):aZ (aP aQ (s.K.getD j []++l))=true:=by
 obtain⟨r,hr⟩:=B3.1 h;obtain⟨_,h2,_⟩:=dS.1 hr;obtain⟨a,b,e,_,ha,D,_⟩:=oG h2;have hm:aP aQ (s.K.getD j []++l)∈jS s.K j l:=by
  unfold jS;exact List.mem_iff_getElem.2 ⟨j,by simpa using A,by simp⟩
 simp only at e;rw[e]at hm;simp only[oJ,nU,or_false]at hm
 rcases hm with h|h<;>(rw[h];assumption)
theorem qR {V:gY}{gI B':Nat}{cc:Array fV}{l:List Rw}(s:Bk w gI cc 28)(h:aD w B' v l)(A:B<=B')(a:∀z,B<=z->z≠gI->z<w.heap.size->V.heap[z]?=w.heap[z]?):aD V B' v l:=
 dF h fun q e=>a q (by have:=oB h q e;omega) (by
  obtain⟨d,hd⟩:=gP h e;exact bK hd s (by decide)) (oT h q e)
theorem N8 {V:gY}{gI J B':Nat}{cc:Array fV}{vs:List fV}{K:List (List Rw)}{S l:List Rw}(hK:K.length=2)(hj:j<2)(hq:2<=J)(hm:J<=maxLen)(H:Bk w gI cc 28)(Z:∀(k:Nat)(u:fV),vs[k]?=some u->cc[k]?=some u)(A:gC w B vs K)(hu:aD w B' u S)(hB:B<=B')(hl:S.length<=2000)(hS:aP aQ (K.getD j []++l)=S)(hV:V.heap[gI]?=(w.setCell ⟨gI,j,none⟩ u).heap[gI]?)(M:∀z,B<=z->z≠gI->z<w.heap.size->V.heap[z]?=w.heap[z]?):eG V (.slice (some ⟨gI,0,none⟩) K.length J) (jS K j l):=by
 obtain⟨s,a,rfl⟩:=qZ hK;obtain⟨F,D,rfl⟩:=qZ (show vs.length=2 by rw[A.1];rfl);have e0:=Z 0 F rfl;have e1:=Z 1 D rfl;have hz:1<cc.size:=(Array.getElem?_eq_some_iff.1 e1).1;have o0:=qR H (A.2.1 0 F s rfl rfl) (wH _) M;have o1:=qR H (A.2.1 1 D a rfl rfl) (wH _) M;have R:=qR H hu hB M;have l0:=A.2.2 s (by simp);have l1:=A.2.2 a (by simp);have I:Bk V gI (cc.setIfInBounds j u) 28:=by unfold Bk;rw[hV];exact H.set j u
 have hs:(cc.setIfInBounds j u)[j]?=some u:=Array.getElem?_setIfInBounds_self_of_lt (by omega);have Y:j≠0->(cc.setIfInBounds j u)[0]?=some F:=fun h=>by rw[sH h];exact e0
 have U:j≠1->(cc.setIfInBounds j u)[1]?=some D:=fun h=>by rw[sH h];exact e1
 obtain rfl|rfl:j=0\/j=1:=by omega
 ·have O:jS [s,a] 0 l=[S,a]:=by unfold jS;rw[hS];rfl
  rw[O];exact eG.eJ (v:=u) (v':=D) (I.cell hs) (I.cell (U (by decide))) (aD.rs R (by omega)) (aD.rs o1 (by omega)) hq hm
 ·have O:jS [s,a] 1 l=[s,S]:=by unfold jS;rw[hS];rfl
  rw[O];exact eG.eJ (v:=F) (v':=u) (I.cell (Y (by decide))) (I.cell hs) (aD.rs o0 (by omega)) (aD.rs R (by omega)) hq hm
theorem Bd {s:SS}{lv:fV}{l:List Rw}(i:Int)(h:bY w sp si sf sd s)(hl:Rs w lv l):
  iC rN 125 #[sv s.t.k s.t.n sp si sf sd,.int .i64 i,lv] w (Nc s i l w):=by
 obtain⟨a0,c0,a1,c1,a2,c2,a3,c3,rfl,rfl,rfl,rfl⟩:=h.sl;obtain⟨al,cl,rfl,-,-,oM,-⟩:=Rs.open hl;have bA:Bk ((w.alloc (.cells (sc s.t.k s.t.n (.slice a0 s.t.len c0) (.slice a1 s.K.length c1) (.slice a2 s.f.length c2) (.slice a3 s.d.length c3)) 30)).alloc (.cells #[.int .i64 0,.int .i64 0,.slice none 0 0,.slice none 0 0,.slice none 0 0,.slice none 0 0] 30)) w.heap.size (sc s.t.k s.t.n (.slice a0 s.t.len c0) (.slice a1 s.K.length c1) (.slice a2 s.f.length c2) (.slice a3 s.d.length c3)) 30:=(Bk.new _ _ rfl).alloc _;have bR:Bk ((w.alloc (.cells (sc s.t.k s.t.n (.slice a0 s.t.len c0) (.slice a1 s.K.length c1) (.slice a2 s.f.length c2) (.slice a3 s.d.length c3)) 30)).alloc (.cells #[.int .i64 0,.int .i64 0,.slice none 0 0,.slice none 0 0,.slice none 0 0,.slice none 0 0] 30)) (w.heap.size+1) #[.int .i64 0,.int .i64 0,.slice none 0 0,.slice none 0 0,.slice none 0 0,.slice none 0 0] 30:=Bk.new _ _ (by simp);have z9:jU w.heap.size w ((w.alloc (.cells (sc s.t.k s.t.n (.slice a0 s.t.len c0) (.slice a1 s.K.length c1) (.slice a2 s.f.length c2) (.slice a3 s.d.length c3)) 30)).alloc (.cells #[.int .i64 0,.int .i64 0,.slice none 0 0,.slice none 0 0,.slice none 0 0,.slice none 0 0] 30)):=aG (aG (fH _ _) _) _;have hS:=h.keep z9;have hL:=hl.keep z9;obtain⟨x0,x1,x2,x3,x4,x5⟩:=bA.aY;clear h hl;cases u4:(dI s).isSome
 ·have HN:Hid (rU s i l=none):=yR (.inl u4);go_enter sG,sE;go_wp2_with fail;generalize ((w.alloc (.cells (sc s.t.k s.t.n (.slice a0 s.t.len c0) (.slice a1 s.K.length c1) (.slice a2 s.f.length c2) (.slice a3 s.d.length c3)) 30)).alloc (.cells #[.int .i64 0,.int .i64 0,.slice none 0 0,.slice none 0 0,.slice none 0 0,.slice none 0 0] 30))=W0 at*;refine (fO u4 hS).mono ?_;rintro e w1 ⟨rfl,U⟩;have y7:=bR.keep U;have z7:=aH z9 U;clear x0 x1 x2 x3 x4 x5 bA bR z9 U;have c4:=y7.free 0;have M:=y7.set 0 (.int .i64 0);have b9:=M.free 1;have J:=M.set 1 (.int .i64 0);have b7:=J.free 2;have I:=J.set 2 (.slice none 0 0);have b6:=I.free 3;have H:=I.set 3 (.slice none 0 0);have b5:=H.free 4;have F:=H.set 4 (.slice none 0 0);have b4:=F.free 5;have O:=F.set 5 (.slice none 0 0);have sN:Bk ((((((w1.setCell ⟨w.heap.size+1,0,none⟩ (.int .i64 0)).setCell ⟨w.heap.size+1,1,none⟩ (.int .i64 0)).setCell ⟨w.heap.size+1,2,none⟩ (.slice none 0 0)).setCell ⟨w.heap.size+1,3,none⟩ (.slice none 0 0)).setCell ⟨w.heap.size+1,4,none⟩ (.slice none 0 0)).setCell ⟨w.heap.size+1,5,none⟩ (.slice none 0 0)) (w.heap.size+1) #[.int .i64 0,.int .i64 0,.slice none 0 0,.slice none 0 0,.slice none 0 0,.slice none 0 0] 30:=O;obtain⟨b3,b2,b1,b0,a7,a6⟩:=y7.aY;obtain⟨z3,z2,z1,z0,y9,y8⟩:=sN.aY;have R:∀z,z≠w.heap.size+1->((((((w1.setCell ⟨w.heap.size+1,0,none⟩ (.int .i64 0)).setCell ⟨w.heap.size+1,1,none⟩ (.int .i64 0)).setCell ⟨w.heap.size+1,2,none⟩ (.slice none 0 0)).setCell ⟨w.heap.size+1,3,none⟩ (.slice none 0 0)).setCell ⟨w.heap.size+1,4,none⟩ (.slice none 0 0)).setCell ⟨w.heap.size+1,5,none⟩ (.slice none 0 0)).heap[z]?=w1.heap[z]?:=fun z A=>(((((fD _ _ _ _ A).trans (fD _ _ _ _ A)).trans (fD _ _ _ _ A)).trans (fD _ _ _ _ A)).trans (fD _ _ _ _ A)).trans (fD _ _ _ _ A);clear M J I H F O;have z6:Hid (jU w.heap.size w ((((((w1.setCell ⟨w.heap.size+1,0,none⟩ (.int .i64 0)).setCell ⟨w.heap.size+1,1,none⟩ (.int .i64 0)).setCell ⟨w.heap.size+1,2,none⟩ (.slice none 0 0)).setCell ⟨w.heap.size+1,3,none⟩ (.slice none 0 0)).setCell ⟨w.heap.size+1,4,none⟩ (.slice none 0 0)).setCell ⟨w.heap.size+1,5,none⟩ (.slice none 0 0))):=((((((z7.setCell (by simp) _).setCell (by simp) _).setCell (by simp) _).setCell (by simp) _).setCell (by simp) _).setCell (by simp) _);clear R sN;go_wp2_with fail;refine gZ (v:= .tuple #[sv 0 0 bM bM bM bM,.bool false]) (by simp[results,qA,go_sem,z3,z2,z1,z0,y9,y8];try rfl) rfl ?_;exact .inr ⟨HN.out,_,_,_,_,rfl,fun V _=>j8 V,z6.out⟩
 cases hi:cH i 0 1
 ·have HN:Hid (rU s i l=none):=yR (.inr (.inl hi));go_enter sG,sE;go_wp2_with fail;generalize ((w.alloc (.cells (sc s.t.k s.t.n (.slice a0 s.t.len c0) (.slice a1 s.K.length c1) (.slice a2 s.f.length c2) (.slice a3 s.d.length c3)) 30)).alloc (.cells #[.int .i64 0,.int .i64 0,.slice none 0 0,.slice none 0 0,.slice none 0 0,.slice none 0 0] 30))=W0 at*;refine (fO u4 hS).mono ?_;rintro e w1 ⟨rfl,U⟩;have y7:=bR.keep U;have z7:=aH z9 U;clear x0 x1 x2 x3 x4 x5 bA bR z9 U;go_wp2_with fail;refine (p8 hi _).mono ?_;rintro e a5 ⟨rfl,rfl⟩;clear hi u4 hS hL;have c4:=y7.free 0;have M:=y7.set 0 (.int .i64 0);have b9:=M.free 1;have J:=M.set 1 (.int .i64 0);have b7:=J.free 2;have I:=J.set 2 (.slice none 0 0);have b6:=I.free 3;have H:=I.set 3 (.slice none 0 0);have b5:=H.free 4;have F:=H.set 4 (.slice none 0 0);have b4:=F.free 5;have O:=F.set 5 (.slice none 0 0);have sN:Bk ((((((a5.setCell ⟨w.heap.size+1,0,none⟩ (.int .i64 0)).setCell ⟨w.heap.size+1,1,none⟩ (.int .i64 0)).setCell ⟨w.heap.size+1,2,none⟩ (.slice none 0 0)).setCell ⟨w.heap.size+1,3,none⟩ (.slice none 0 0)).setCell ⟨w.heap.size+1,4,none⟩ (.slice none 0 0)).setCell ⟨w.heap.size+1,5,none⟩ (.slice none 0 0)) (w.heap.size+1) #[.int .i64 0,.int .i64 0,.slice none 0 0,.slice none 0 0,.slice none 0 0,.slice none 0 0] 30:=O;obtain⟨b3,b2,b1,b0,a7,a6⟩:=y7.aY;obtain⟨z3,z2,z1,z0,y9,y8⟩:=sN.aY;have R:∀z,z≠w.heap.size+1->((((((a5.setCell ⟨w.heap.size+1,0,none⟩ (.int .i64 0)).setCell ⟨w.heap.size+1,1,none⟩ (.int .i64 0)).setCell ⟨w.heap.size+1,2,none⟩ (.slice none 0 0)).setCell ⟨w.heap.size+1,3,none⟩ (.slice none 0 0)).setCell ⟨w.heap.size+1,4,none⟩ (.slice none 0 0)).setCell ⟨w.heap.size+1,5,none⟩ (.slice none 0 0)).heap[z]?=a5.heap[z]?:=fun z A=>(((((fD _ _ _ _ A).trans (fD _ _ _ _ A)).trans (fD _ _ _ _ A)).trans (fD _ _ _ _ A)).trans (fD _ _ _ _ A)).trans (fD _ _ _ _ A);clear M J I H F O;have z6:Hid (jU w.heap.size w ((((((a5.setCell ⟨w.heap.size+1,0,none⟩ (.int .i64 0)).setCell ⟨w.heap.size+1,1,none⟩ (.int .i64 0)).setCell ⟨w.heap.size+1,2,none⟩ (.slice none 0 0)).setCell ⟨w.heap.size+1,3,none⟩ (.slice none 0 0)).setCell ⟨w.heap.size+1,4,none⟩ (.slice none 0 0)).setCell ⟨w.heap.size+1,5,none⟩ (.slice none 0 0))):=((((((z7.setCell (by simp) _).setCell (by simp) _).setCell (by simp) _).setCell (by simp) _).setCell (by simp) _).setCell (by simp) _);clear R sN;go_wp2_with fail;refine gZ (v:= .tuple #[sv 0 0 bM bM bM bM,.bool false]) (by simp[results,qA,go_sem,z3,z2,z1,z0,y9,y8];try rfl) rfl ?_;exact .inr ⟨HN.out,_,_,_,_,rfl,fun V _=>j8 V,z6.out⟩
 cases hk:aZ l
 ·have HN:Hid (rU s i l=none):=yR (.inr (.inr (.inl hk)));go_enter sG,sE;go_wp2_with fail;generalize ((w.alloc (.cells (sc s.t.k s.t.n (.slice a0 s.t.len c0) (.slice a1 s.K.length c1) (.slice a2 s.f.length c2) (.slice a3 s.d.length c3)) 30)).alloc (.cells #[.int .i64 0,.int .i64 0,.slice none 0 0,.slice none 0 0,.slice none 0 0,.slice none 0 0] 30))=W0 at*;refine (fO u4 hS).mono ?_;rintro e w0 ⟨rfl,U⟩;have f5:=bR.keep U;have w4:=aH z9 U;have f3:=hL.keep U;clear x0 x1 x2 x3 x4 x5 bA bR z9 U;go_wp2_with fail;refine (p8 hi _).mono ?_;rintro e a5 ⟨rfl,rfl⟩;go_wp2_with fail;refine (jO hk f3).mono ?_;rintro e w1 ⟨rfl,x8⟩;have y7:=f5.keep x8;have z7:=aH w4 x8;clear f5 w4 x8;have c4:=y7.free 0;have M:=y7.set 0 (.int .i64 0);have b9:=M.free 1;have J:=M.set 1 (.int .i64 0);have b7:=J.free 2;have I:=J.set 2 (.slice none 0 0);have b6:=I.free 3;have H:=I.set 3 (.slice none 0 0);have b5:=H.free 4;have F:=H.set 4 (.slice none 0 0);have b4:=F.free 5;have O:=F.set 5 (.slice none 0 0);have sN:Bk ((((((w1.setCell ⟨w.heap.size+1,0,none⟩ (.int .i64 0)).setCell ⟨w.heap.size+1,1,none⟩ (.int .i64 0)).setCell ⟨w.heap.size+1,2,none⟩ (.slice none 0 0)).setCell ⟨w.heap.size+1,3,none⟩ (.slice none 0 0)).setCell ⟨w.heap.size+1,4,none⟩ (.slice none 0 0)).setCell ⟨w.heap.size+1,5,none⟩ (.slice none 0 0)) (w.heap.size+1) #[.int .i64 0,.int .i64 0,.slice none 0 0,.slice none 0 0,.slice none 0 0,.slice none 0 0] 30:=O;obtain⟨b3,b2,b1,b0,a7,a6⟩:=y7.aY;obtain⟨z3,z2,z1,z0,y9,y8⟩:=sN.aY;have R:∀z,z≠w.heap.size+1->((((((w1.setCell ⟨w.heap.size+1,0,none⟩ (.int .i64 0)).setCell ⟨w.heap.size+1,1,none⟩ (.int .i64 0)).setCell ⟨w.heap.size+1,2,none⟩ (.slice none 0 0)).setCell ⟨w.heap.size+1,3,none⟩ (.slice none 0 0)).setCell ⟨w.heap.size+1,4,none⟩ (.slice none 0 0)).setCell ⟨w.heap.size+1,5,none⟩ (.slice none 0 0)).heap[z]?=w1.heap[z]?:=fun z A=>(((((fD _ _ _ _ A).trans (fD _ _ _ _ A)).trans (fD _ _ _ _ A)).trans (fD _ _ _ _ A)).trans (fD _ _ _ _ A)).trans (fD _ _ _ _ A);clear M J I H F O;have z6:Hid (jU w.heap.size w ((((((w1.setCell ⟨w.heap.size+1,0,none⟩ (.int .i64 0)).setCell ⟨w.heap.size+1,1,none⟩ (.int .i64 0)).setCell ⟨w.heap.size+1,2,none⟩ (.slice none 0 0)).setCell ⟨w.heap.size+1,3,none⟩ (.slice none 0 0)).setCell ⟨w.heap.size+1,4,none⟩ (.slice none 0 0)).setCell ⟨w.heap.size+1,5,none⟩ (.slice none 0 0))):=((((((z7.setCell (by simp) _).setCell (by simp) _).setCell (by simp) _).setCell (by simp) _).setCell (by simp) _).setCell (by simp) _);clear R sN;go_wp2_with fail;refine gZ (v:= .tuple #[sv 0 0 bM bM bM bM,.bool false]) (by simp[results,qA,go_sem,z3,z2,z1,z0,y9,y8];try rfl) rfl ?_;exact .inr ⟨HN.out,_,_,_,_,rfl,fun V _=>j8 V,z6.out⟩
 have oV:=fP (j7 hk);have rA:=kD s.f l;go_enter sG,sE;go_wp2_with fail;generalize ((w.alloc (.cells (sc s.t.k s.t.n (.slice a0 s.t.len c0) (.slice a1 s.K.length c1) (.slice a2 s.f.length c2) (.slice a3 s.d.length c3)) 30)).alloc (.cells #[.int .i64 0,.int .i64 0,.slice none 0 0,.slice none 0 0,.slice none 0 0,.slice none 0 0] 30))=W0 at*;refine (fO u4 hS).mono ?_;rintro e w0 ⟨rfl,U⟩;have f5:=bR.keep U;have r0:=bA.keep U;have w4:=aH z9 U;have f3:=hL.keep U;have q4:=hS.keep U;clear x0 x1 x2 x3 x4 x5 bA bR z9 U hS hL;go_wp2_with fail;refine (p8 hi _).mono ?_;rintro e a5 ⟨rfl,rfl⟩;go_wp2_with fail;refine (jO hk f3).mono ?_;rintro e w1 ⟨rfl,x8⟩;have y7:=f5.keep x8;have l4:=r0.keep x8;have z7:=aH w4 x8;have l1:=f3.keep x8;have l0:=q4.keep x8;clear f5 r0 w4 x8 f3 q4;obtain⟨x0,x1,x2,x3,x4,x5⟩:=l4.aY;go_wp2_with fail;refine (rH _ _ s.f l _ l1 l0.ts (by omega)).mono ?_;rintro e w2 ⟨o2,rfl,j3,x8⟩;have c9:=y7.keep x8;have q9:=l4.keep x8;have g2:=aH z7 x8;have q6:=l1.keep x8;have p9:=l0.keep x8;obtain⟨ao,co,rfl,-⟩:=Rs.open (aD.rs j3 (by omega));clear y7 l4 z7 x8 l1 l0 j3 x0 x1 x2 x3 x4 x5
 by_cases A:aJ s.f l=[]
 case neg=>
  have HN:Hid (rU s i l=none):=yR (.inr (.inr (.inr A)));have eF:0<(aJ s.f l).length:=List.length_pos_iff.2 A;have dL:(0:Int)<((aJ s.f l).length:Int):=by omega
  have c4:=c9.free 0;have M:=c9.set 0 (.int .i64 0);have b9:=M.free 1;have J:=M.set 1 (.int .i64 0);have b7:=J.free 2;have I:=J.set 2 (.slice none 0 0);have b6:=I.free 3;have H:=I.set 3 (.slice none 0 0);have b5:=H.free 4;have F:=H.set 4 (.slice none 0 0);have b4:=F.free 5;have O:=F.set 5 (.slice none 0 0);have sN:Bk ((((((w2.setCell ⟨w.heap.size+1,0,none⟩ (.int .i64 0)).setCell ⟨w.heap.size+1,1,none⟩ (.int .i64 0)).setCell ⟨w.heap.size+1,2,none⟩ (.slice none 0 0)).setCell ⟨w.heap.size+1,3,none⟩ (.slice none 0 0)).setCell ⟨w.heap.size+1,4,none⟩ (.slice none 0 0)).setCell ⟨w.heap.size+1,5,none⟩ (.slice none 0 0)) (w.heap.size+1) #[.int .i64 0,.int .i64 0,.slice none 0 0,.slice none 0 0,.slice none 0 0,.slice none 0 0] 30:=O;obtain⟨b3,b2,b1,b0,a7,a6⟩:=c9.aY;obtain⟨z3,z2,z1,z0,y9,y8⟩:=sN.aY;have R:∀z,z≠w.heap.size+1->((((((w2.setCell ⟨w.heap.size+1,0,none⟩ (.int .i64 0)).setCell ⟨w.heap.size+1,1,none⟩ (.int .i64 0)).setCell ⟨w.heap.size+1,2,none⟩ (.slice none 0 0)).setCell ⟨w.heap.size+1,3,none⟩ (.slice none 0 0)).setCell ⟨w.heap.size+1,4,none⟩ (.slice none 0 0)).setCell ⟨w.heap.size+1,5,none⟩ (.slice none 0 0)).heap[z]?=w2.heap[z]?:=fun z A=>(((((fD _ _ _ _ A).trans (fD _ _ _ _ A)).trans (fD _ _ _ _ A)).trans (fD _ _ _ _ A)).trans (fD _ _ _ _ A)).trans (fD _ _ _ _ A);clear M J I H F O;have z6:Hid (jU w.heap.size w ((((((w2.setCell ⟨w.heap.size+1,0,none⟩ (.int .i64 0)).setCell ⟨w.heap.size+1,1,none⟩ (.int .i64 0)).setCell ⟨w.heap.size+1,2,none⟩ (.slice none 0 0)).setCell ⟨w.heap.size+1,3,none⟩ (.slice none 0 0)).setCell ⟨w.heap.size+1,4,none⟩ (.slice none 0 0)).setCell ⟨w.heap.size+1,5,none⟩ (.slice none 0 0))):=((((((g2.setCell (by simp) _).setCell (by simp) _).setCell (by simp) _).setCell (by simp) _).setCell (by simp) _).setCell (by simp) _);clear R sN;go_wp2_with fail;refine gZ (v:= .tuple #[sv 0 0 bM bM bM bM,.bool false]) (by simp[results,qA,go_sem,z3,z2,z1,z0,y9,y8];try rfl) rfl ?_;exact .inr ⟨HN.out,_,_,_,_,rfl,fun V _=>j8 V,z6.out⟩
 have m0:=(show Hid _ from NH u4 hi hk A);rw[A];obtain⟨r,hr⟩:=B3.1 u4;have v8:=AC hr;have d0:Hid (s.K.length=2):=by
  show _=_
  obtain⟨_,h2,_⟩:=dS.1 hr;obtain⟨a,b,e,_⟩:=oG h2;rw[e];rfl
 have bX:Hid (∀l∈s.K,aZ l=true):=by
  obtain⟨_,h2,_⟩:=dS.1 hr;obtain⟨a,b,e,_,ha,hb,_⟩:=oG h2;intro l hl;rw[e]at hl;simp only[oJ,nU,or_false]at hl
  rcases hl with rfl|rfl<;>assumption
 obtain⟨x0,x1,x2,x3,x4,x5⟩:=q9.aY;go_wp2_with fail;refine (zI p9 v8).mono ?_;rintro e D ⟨nK,oA,oD,oE,rfl,sO,f2⟩;have l2:=c9.keep f2;have k1:=aH g2 f2;have q5:=q6.keep f2;have oK:w.heap.size+2<=D.heap.size:=by have:=l2.lt;omega
 have aT:=c9.lt;have hH:=f2.size;obtain⟨p0,q0,p1,Z,p2,q2,p3,q3,rfl,rfl,rfl,rfl⟩:=(sO.ses v8).sl;obtain⟨j,rfl⟩:∃j:Nat,i=(j:Int):=⟨i.toNat,by simp[cH]at hi;omega⟩;have hj:j<s.K.length:=by have:=d0.out;simp[cH]at hi;omega
 have ij:((j:Int)<(s.K.length:Int)):=by omega
 obtain⟨vs,ov,eo⟩:=sO.ly;have l7:Hid (vs.length=2):=by show _=_;rw[eo.1,d0.out]
 obtain⟨gI,ccI,aI,aL,wP,bI,v9⟩:∃(gI:Nat)(cc:Array fV),p1=some ⟨gI,0,none⟩/\2<=Z/\Z<=maxLen/\Bk D gI cc 28/\∀(k:Nat)(u:fV),vs[k]?=some u->cc[k]?=some u:=by
  rcases gE ov vQ with⟨h1,h2⟩|⟨g,rD,cc,e,_,hb,_,h5,h6,hf⟩
  ·have o7:=l7.out;rw[h2]at o7;simp at o7
  ·obtain⟨rfl,-,rfl⟩:=fV.slice.inj e;refine⟨g,cc,rfl,by have:=l7.out;have:=d0.out;omega,h6,hb,fun k u hu=>?_⟩;have aE:k<vs.length:=(List.getElem?_eq_some_iff.1 hu).1
   simpa using hf k u aE hu 0 (by omega)
 subst aI;obtain⟨kj,g7⟩:∃l,s.K[j]?=some l:=⟨_,mJ hj⟩;obtain⟨uj,j4⟩:∃u,vs[j]?=some u:=⟨_,mJ (by have:=l7.out;have:=d0.out;omega)⟩;have oj:=eo.2.1 j uj kj j4 g7;have eK:kj.length<=1000:=v8.2.1 kj (kR g7);have hJ:aZ kj=true:=bX.out kj (kR g7);have Rj:Rs D uj kj:=aD.rs oj (by omega);obtain⟨aj,cj,rfl,-⟩:=Rs.open Rj;have o9:s.K.getD j []=kj:=by rw[mF,g7];rfl
 have cI:=bI.cell (v9 j _ j4);have eM:=bI.lt;have eT:w2.heap.size<=gI:=oB ov gI rfl;have l8:Hid (lR D w2.heap.size (.slice p0 s.t.len q0) (.slice (some ⟨gI,0,none⟩) s.K.length Z) (.slice p2 s.f.length q2) (.slice p3 s.d.length q3) s):=sO;have cF:Hid (gC D w2.heap.size vs s.K):=eo;have b8:Bk ((D.alloc (.cells (sc s.t.k s.t.n (.slice p0 s.t.len q0) (.slice (some ⟨gI,0,none⟩) s.K.length Z) (.slice p2 s.f.length q2) (.slice p3 s.d.length q3)) 30)).alloc (.cells #[] 55)) D.heap.size (sc s.t.k s.t.n (.slice p0 s.t.len q0) (.slice (some ⟨gI,0,none⟩) s.K.length Z) (.slice p2 s.f.length q2) (.slice p3 s.d.length q3)) 30:=(Bk.new _ _ rfl).alloc _;have g9:jU D.heap.size D ((D.alloc (.cells (sc s.t.k s.t.n (.slice p0 s.t.len q0) (.slice (some ⟨gI,0,none⟩) s.K.length Z) (.slice p2 s.f.length q2) (.slice p3 s.d.length q3)) 30)).alloc (.cells #[] 55)):=aG (aG (fH _ _) _) _;have OE:aD ((D.alloc (.cells (sc s.t.k s.t.n (.slice p0 s.t.len q0) (.slice (some ⟨gI,0,none⟩) s.K.length Z) (.slice p2 s.f.length q2) (.slice p3 s.d.length q3)) 30)).alloc (.cells #[] 55)) (D.heap.size+1) (.slice (some ⟨D.heap.size+1,0,none⟩) 0 0) []:=dW (D.alloc (.cells (sc s.t.k s.t.n (.slice p0 s.t.len q0) (.slice (some ⟨gI,0,none⟩) s.K.length Z) (.slice p2 s.f.length q2) (.slice p3 s.d.length q3)) 30)) (by simp);have R5:Rs ((D.alloc (.cells (sc s.t.k s.t.n (.slice p0 s.t.len q0) (.slice (some ⟨gI,0,none⟩) s.K.length Z) (.slice p2 s.f.length q2) (.slice p3 s.d.length q3)) 30)).alloc (.cells #[] 55)) (.slice aj kj.length cj) kj:=Rj.keep g9;have c5:=cB g9 cI;obtain⟨y0,y1,y2,y3,y4,y5⟩:=b8.aY;have zE:D.heap.size+1<=((D.alloc (.cells (sc s.t.k s.t.n (.slice p0 s.t.len q0) (.slice (some ⟨gI,0,none⟩) s.K.length Z) (.slice p2 s.f.length q2) (.slice p3 s.d.length q3)) 30)).alloc (.cells #[] 55)).heap.size:=by simp
 have zF:D.heap.size<=((D.alloc (.cells (sc s.t.k s.t.n (.slice p0 s.t.len q0) (.slice (some ⟨gI,0,none⟩) s.K.length Z) (.slice p2 s.f.length q2) (.slice p3 s.d.length q3)) 30)).alloc (.cells #[] 55)).heap.size:=by omega
 have r4:Hid (Bk ((D.alloc (.cells (sc s.t.k s.t.n (.slice p0 s.t.len q0) (.slice (some ⟨gI,0,none⟩) s.K.length Z) (.slice p2 s.f.length q2) (.slice p3 s.d.length q3)) 30)).alloc (.cells #[] 55)) D.heap.size (sc s.t.k s.t.n (.slice p0 s.t.len q0) (.slice (some ⟨gI,0,none⟩) s.K.length Z) (.slice p2 s.f.length q2) (.slice p3 s.d.length q3)) 30):=b8;have bV:Hid (Rs D (.slice al l.length cl) l):=q5;have cL:Hid (Bk D gI ccI 28):=bI;have r3:Hid (∀(k:Nat)(u:fV),vs[k]?=some u->ccI[k]?=some u):=v9;clear x0 x1 x2 x3 x4 x5 p9 q9 c9 g2 q6 f2 sO ov eo oj Rj cI bI v9 q5 b8 A u4
 go_wp2_with (at_builtin;first
  | (refine kZ _ rfl _ _ rfl (D.heap.size+1) (.slice (some ⟨D.heap.size+1,0,none⟩) 0 0) [] rfl OE _ kj rfl R5 (by simp;omega) zE ?_;intro v6 w6 j2 g8;have k4:jU D.heap.size D w6:=Below.aO g9 g8 zF (fun z e=>by have:=lK e;omega);have v3:aD w6 (D.heap.size+1) v6 kj:=j2;have R6:=bV.out.keep k4;have o6:D.heap.size+1<=w6.heap.size:=wR zE g8.size)
  | (refine kZ _ rfl _ _ rfl (D.heap.size+1) v6 kj rfl v3 _ l rfl R6 (by omega) o6 ?_;intro v7 w7 j1 k0;have k3:jU D.heap.size D w7:=Below.aO k4 k0 (by omega) (fun z e=>by have:=oB v3 z e;omega);have R7:=aD.rs j1 (by simp;omega)))
 refine (k9 _ (kj++l) _ R7 (by simp;omega) (by rw[gJ];have:=lF (j7 hJ);have:=lF (j7 hk);omega)).mono ?_;rintro e w8 ⟨o8,rfl,d3,k2⟩;have wN:=i6 aQ (kj++l);have hI:(aP aQ (kj++l)).length<=2000:=by simp at wN;omega
 obtain⟨a8,c8,rfl,-⟩:=Rs.open (aD.rs d3 (by omega));have g3:jU D.heap.size D w8:=aH k3 k2;have l3:Bk w8 D.heap.size (sc s.t.k s.t.n (.slice p0 s.t.len q0) (.slice (some ⟨gI,0,none⟩) s.K.length Z) (.slice p2 s.f.length q2) (.slice p3 s.d.length q3)) 30:=by
  have e6:Bk w6 D.heap.size (sc s.t.k s.t.n (.slice p0 s.t.len q0) (.slice (some ⟨gI,0,none⟩) s.K.length Z) (.slice p2 s.f.length q2) (.slice p3 s.d.length q3)) 30:=r4.out.aO g8 (fun z e=>by have:=lK e;omega);exact (e6.aO k0 (fun z e=>by have:=oB v3 z e;omega)).keep k2
 have R8:Rs w8 (.slice a8 (aP aQ (kj++l)).length c8) (aP aQ (kj++l)):=aD.rs d3 (by omega);have i1:=l2.keep g3;have d5:=aH k1 g3;have hU:Hid (aD w8 w7.heap.size (.slice a8 (aP aQ (kj++l)).length c8) (aP aQ (kj++l))):=d3;have bP:Hid (D.heap.size<=w7.heap.size):=k3.size;have bS:Hid (w2.heap.size<=D.heap.size):=hH;clear OE R5 c5 y0 y1 y2 y3 y4 y5 zE zF g9 r4 g8 k0 j2 v3 j1 R6 R7 k4 k3 k2 d3 l2 k1 o6;generalize k5:aP aQ (kj++l)=S at*;cases j5:aZ S
 ·have HN:Hid (rU s (j:Int) l=none):=by
   show _=_
   rw[m0.out];rw[if_neg];intro h';have:=Kl (by simpa using hj) h';simp only[Int.toNat_natCast,o9,k5,j5]at this;cases this
  go_wp2_with fail;refine (jO j5 R8).mono ?_;rintro e Y ⟨rfl,z8⟩;have w5:=i1.keep z8;have d4:=aH d5 z8;clear i1 d5 z8 l3;have c4:=w5.free 0;have M:=w5.set 0 (.int .i64 0);have b9:=M.free 1;have J:=M.set 1 (.int .i64 0);have b7:=J.free 2;have I:=J.set 2 (.slice none 0 0);have b6:=I.free 3;have H:=I.set 3 (.slice none 0 0);have b5:=H.free 4;have F:=H.set 4 (.slice none 0 0);have b4:=F.free 5;have O:=F.set 5 (.slice none 0 0);have sN:Bk ((((((Y.setCell ⟨w.heap.size+1,0,none⟩ (.int .i64 0)).setCell ⟨w.heap.size+1,1,none⟩ (.int .i64 0)).setCell ⟨w.heap.size+1,2,none⟩ (.slice none 0 0)).setCell ⟨w.heap.size+1,3,none⟩ (.slice none 0 0)).setCell ⟨w.heap.size+1,4,none⟩ (.slice none 0 0)).setCell ⟨w.heap.size+1,5,none⟩ (.slice none 0 0)) (w.heap.size+1) #[.int .i64 0,.int .i64 0,.slice none 0 0,.slice none 0 0,.slice none 0 0,.slice none 0 0] 30:=O;obtain⟨b3,b2,b1,b0,a7,a6⟩:=w5.aY;obtain⟨z3,z2,z1,z0,y9,y8⟩:=sN.aY;have R:∀z,z≠w.heap.size+1->((((((Y.setCell ⟨w.heap.size+1,0,none⟩ (.int .i64 0)).setCell ⟨w.heap.size+1,1,none⟩ (.int .i64 0)).setCell ⟨w.heap.size+1,2,none⟩ (.slice none 0 0)).setCell ⟨w.heap.size+1,3,none⟩ (.slice none 0 0)).setCell ⟨w.heap.size+1,4,none⟩ (.slice none 0 0)).setCell ⟨w.heap.size+1,5,none⟩ (.slice none 0 0)).heap[z]?=Y.heap[z]?:=fun z A=>(((((fD _ _ _ _ A).trans (fD _ _ _ _ A)).trans (fD _ _ _ _ A)).trans (fD _ _ _ _ A)).trans (fD _ _ _ _ A)).trans (fD _ _ _ _ A);clear M J I H F O;have z6:Hid (jU w.heap.size w ((((((Y.setCell ⟨w.heap.size+1,0,none⟩ (.int .i64 0)).setCell ⟨w.heap.size+1,1,none⟩ (.int .i64 0)).setCell ⟨w.heap.size+1,2,none⟩ (.slice none 0 0)).setCell ⟨w.heap.size+1,3,none⟩ (.slice none 0 0)).setCell ⟨w.heap.size+1,4,none⟩ (.slice none 0 0)).setCell ⟨w.heap.size+1,5,none⟩ (.slice none 0 0))):=((((((d4.setCell (by simp) _).setCell (by simp) _).setCell (by simp) _).setCell (by simp) _).setCell (by simp) _).setCell (by simp) _);clear R sN;go_wp2_with fail;refine gZ (v:= .tuple #[sv 0 0 bM bM bM bM,.bool false]) (by simp[results,qA,go_sem,z3,z2,z1,z0,y9,y8];try rfl) rfl ?_;exact .inr ⟨HN.out,_,_,_,_,rfl,fun V _=>j8 V,z6.out⟩
 ·go_wp2_with fail;refine (jO j5 R8).mono ?_;rintro e Y ⟨rfl,z8⟩;have w5:=i1.keep z8;have d4:=aH d5 z8;have i2:=l3.keep z8;have u8:jU D.heap.size D Y:=aH g3 z8;have a4:=cL.out.keep u8;have i5:aD Y w7.heap.size (.slice a8 S.length c8) S:=bJ hU.out z8;obtain⟨y0,y1,y2,y3,y4,y5⟩:=i2.aY;have fI:=a4.free j;have hM:=a4.lt;have v5:∀z,z≠gI->(Y.setCell ⟨gI,j,none⟩ (.slice a8 S.length c8)).heap[z]?=Y.heap[z]?:=fun z A=>fD _ _ _ _ A;have hne:∀{z:Nat}{c:Array fV}{T:TypeId},Bk Y z c T->T≠28->z≠gI:=fun h1 h2=>bK h1 a4 h2;have r1:Hid (∀V:gY,V.heap[gI]?=(Y.setCell ⟨gI,j,none⟩ (.slice a8 S.length c8)).heap[gI]?->(∀z,w2.heap.size<=z->z≠gI->z<Y.heap.size->V.heap[z]?=Y.heap[z]?)->bY V (.slice p0 s.t.len q0) (.slice (some ⟨gI,0,none⟩) s.K.length Z) (.slice p2 s.f.length q2) (.slice p3 s.d.length q3) ⟨s.t,jS s.K j l,s.f,s.d⟩):=by
   intro V hV hv;have g5:aW Y w2.heap.size (.slice p2 s.f.length q2) s.f:=bJ l8.out.ts u8;have zD:aD Y w2.heap.size (.slice p3 s.d.length q3) s.d:=bJ l8.out.rs u8;refine⟨((l8.out.kd.keep u8).move (q:=fun _=>True) fun g hg hl=>⟨trivial,hv g hg.1 (fun e=>hg.2 (by rw[e];rfl)) hl⟩).kd fun g _=>Nat.zero_le _,N8 d0.out (by have:=d0.out;omega) aL wP a4 r3.out (cF.out.keep u8) i5 (by have:=bP.out;have:=bS.out;omega) hI (by rw[o9];exact k5) hV hv,aW.ts (dF g5 fun z e=>hv z (oB g5 z e) ?_ (oT g5 z e)) (by have:=v8.2.2.1;show s.f.length<=2097152;omega),aD.rs (qR a4 zD (wH _) hv) (by have:=v8.2.2.2;show s.d.length<=2097152;omega)⟩;obtain⟨d,hd⟩:=mZ g5 e;exact hne hd (by decide)
  have hT:Hid (∀z,z≠gI->(Y.setCell ⟨gI,j,none⟩ (.slice a8 S.length c8)).heap[z]?=Y.heap[z]?):=v5;have l6:Hid ((Y.setCell ⟨gI,j,none⟩ (.slice a8 S.length c8)).heap.size=Y.heap.size):=by show _=_;simp
  have e4:Bk (Y.setCell ⟨gI,j,none⟩ (.slice a8 S.length c8)) D.heap.size (sc s.t.k s.t.n (.slice p0 s.t.len q0) (.slice (some ⟨gI,0,none⟩) s.K.length Z) (.slice p2 s.f.length q2) (.slice p3 s.d.length q3)) 30:=by unfold Bk;rw[v5 _ (hne i2 (by decide))];exact i2
  have e3:Bk (Y.setCell ⟨gI,j,none⟩ (.slice a8 S.length c8)) (w.heap.size+1) #[.int .i64 0,.int .i64 0,.slice none 0 0,.slice none 0 0,.slice none 0 0,.slice none 0 0] 30:=by unfold Bk;rw[v5 _ (hne w5 (by decide))];exact w5
  have v4:jU w.heap.size w (Y.setCell ⟨gI,j,none⟩ (.slice a8 S.length c8)):=d4.setCell (by show _<=gI;omega) _;obtain⟨t0,t1,t2,t3,t4,t5⟩:=e4.aY;have i0:∃v,Y.cell? ⟨gI,j,none⟩=some v:=⟨_,a4.cell (r3.out j _ j4)⟩;obtain⟨vI,i0⟩:=i0;have l9:Hid (bY (Y.setCell ⟨gI,j,none⟩ (.slice a8 S.length c8)) (.slice p0 s.t.len q0) (.slice (some ⟨gI,0,none⟩) s.K.length Z) (.slice p2 s.f.length q2) (.slice p3 s.d.length q3) ⟨s.t,jS s.K j l,s.f,s.d⟩):=r1.out _ rfl fun z _ h2 _=>v5 z h2;have r2:Hid (rU s (j:Int) l=if (dI ⟨s.t,jS s.K j l,s.f,s.d⟩).isSome then some ⟨s.t,jS s.K j l,s.f,s.d⟩ else none):=by
   have:=m0.out
   show _=_
   simpa using this
  clear v5 hne i2 w5 d4 a4 i5 u8 z8 l3 i1 d5 R8 m0;cases e2:(dI ⟨s.t,jS s.K j l,s.f,s.d⟩).isSome
  ·have HN:Hid (rU s (j:Int) l=none):=by show _=_;rw[r2.out,e2];rfl
   go_wp2_with fail;clear t0 t1 t2 t3 t4 t5 y0 y1 y2 y3 y4 y5 fI i0;generalize (Y.setCell ⟨gI,j,none⟩ (.slice a8 S.length c8))=l5 at*;refine (fO e2 l9.out).mono ?_;rintro e w11 ⟨rfl,y6⟩;have u0:=e3.keep y6;have e1:=aH v4 y6;clear e3 v4 y6 e4;have c4:=u0.free 0;have M:=u0.set 0 (.int .i64 0);have b9:=M.free 1;have J:=M.set 1 (.int .i64 0);have b7:=J.free 2;have I:=J.set 2 (.slice none 0 0);have b6:=I.free 3;have H:=I.set 3 (.slice none 0 0);have b5:=H.free 4;have F:=H.set 4 (.slice none 0 0);have b4:=F.free 5;have O:=F.set 5 (.slice none 0 0);have sN:Bk ((((((w11.setCell ⟨w.heap.size+1,0,none⟩ (.int .i64 0)).setCell ⟨w.heap.size+1,1,none⟩ (.int .i64 0)).setCell ⟨w.heap.size+1,2,none⟩ (.slice none 0 0)).setCell ⟨w.heap.size+1,3,none⟩ (.slice none 0 0)).setCell ⟨w.heap.size+1,4,none⟩ (.slice none 0 0)).setCell ⟨w.heap.size+1,5,none⟩ (.slice none 0 0)) (w.heap.size+1) #[.int .i64 0,.int .i64 0,.slice none 0 0,.slice none 0 0,.slice none 0 0,.slice none 0 0] 30:=O;obtain⟨b3,b2,b1,b0,a7,a6⟩:=u0.aY;obtain⟨z3,z2,z1,z0,y9,y8⟩:=sN.aY;have R:∀z,z≠w.heap.size+1->((((((w11.setCell ⟨w.heap.size+1,0,none⟩ (.int .i64 0)).setCell ⟨w.heap.size+1,1,none⟩ (.int .i64 0)).setCell ⟨w.heap.size+1,2,none⟩ (.slice none 0 0)).setCell ⟨w.heap.size+1,3,none⟩ (.slice none 0 0)).setCell ⟨w.heap.size+1,4,none⟩ (.slice none 0 0)).setCell ⟨w.heap.size+1,5,none⟩ (.slice none 0 0)).heap[z]?=w11.heap[z]?:=fun z A=>(((((fD _ _ _ _ A).trans (fD _ _ _ _ A)).trans (fD _ _ _ _ A)).trans (fD _ _ _ _ A)).trans (fD _ _ _ _ A)).trans (fD _ _ _ _ A);clear M J I H F O;have z6:Hid (jU w.heap.size w ((((((w11.setCell ⟨w.heap.size+1,0,none⟩ (.int .i64 0)).setCell ⟨w.heap.size+1,1,none⟩ (.int .i64 0)).setCell ⟨w.heap.size+1,2,none⟩ (.slice none 0 0)).setCell ⟨w.heap.size+1,3,none⟩ (.slice none 0 0)).setCell ⟨w.heap.size+1,4,none⟩ (.slice none 0 0)).setCell ⟨w.heap.size+1,5,none⟩ (.slice none 0 0))):=((((((e1.setCell (by simp) _).setCell (by simp) _).setCell (by simp) _).setCell (by simp) _).setCell (by simp) _).setCell (by simp) _);clear R sN;go_wp2_with fail;refine gZ (v:= .tuple #[sv 0 0 bM bM bM bM,.bool false]) (by simp[results,qA,go_sem,z3,z2,z1,z0,y9,y8];try rfl) rfl ?_;exact .inr ⟨HN.out,_,_,_,_,rfl,fun V _=>j8 V,z6.out⟩
  ·have HN:Hid (rU s (j:Int) l=some ⟨s.t,jS s.K j l,s.f,s.d⟩):=by show _=_;rw[r2.out,e2];rfl
   go_wp2_with fail;clear t0 t1 t2 t3 t4 t5 y0 y1 y2 y3 y4 y5 fI i0;generalize (Y.setCell ⟨gI,j,none⟩ (.slice a8 S.length c8))=l5 at*;refine (fO e2 l9.out).mono ?_;rintro e w11 ⟨rfl,y6⟩;have u0:=e3.keep y6;have hN:=e4.keep y6;have e1:=aH v4 y6;have hW:Hid (w11.heap[gI]?=l5.heap[gI]?):=y6.block gI (by rw[l6.out];exact hM);have cS:Hid (∀z,z≠gI->z<Y.heap.size->w11.heap[z]?=Y.heap[z]?):=fun z h1 h2=>(y6.block z (by rw[l6.out];exact h2)).trans (hT.out z h1);have o1:Hid (l5.heap.size<=w11.heap.size):=y6.size;have cM:Hid (w.heap.size+2<=w2.heap.size):=aT;clear e3 v4 y6 e4;obtain⟨t0,t1,t2,t3,t4,t5⟩:=hN.aY;have c4:=u0.free 0;have M:=u0.set 0 (.int .i64 s.t.k);have b9:=M.free 1;have J:=M.set 1 (.int .i64 s.t.n);have b7:=J.free 2;have I:=J.set 2 (.slice p0 s.t.len q0);have b6:=I.free 3;have H:=I.set 3 (.slice (some ⟨gI,0,none⟩) s.K.length Z);have b5:=H.free 4;have F:=H.set 4 (.slice p2 s.f.length q2);have b4:=F.free 5;have O:=F.set 5 (.slice p3 s.d.length q3);have sN:Bk ((((((w11.setCell ⟨w.heap.size+1,0,none⟩ (.int .i64 s.t.k)).setCell ⟨w.heap.size+1,1,none⟩ (.int .i64 s.t.n)).setCell ⟨w.heap.size+1,2,none⟩ (.slice p0 s.t.len q0)).setCell ⟨w.heap.size+1,3,none⟩ (.slice (some ⟨gI,0,none⟩) s.K.length Z)).setCell ⟨w.heap.size+1,4,none⟩ (.slice p2 s.f.length q2)).setCell ⟨w.heap.size+1,5,none⟩ (.slice p3 s.d.length q3)) (w.heap.size+1) #[.int .i64 s.t.k,.int .i64 s.t.n,.slice p0 s.t.len q0,.slice (some ⟨gI,0,none⟩) s.K.length Z,.slice p2 s.f.length q2,.slice p3 s.d.length q3] 30:=O;obtain⟨b3,b2,b1,b0,a7,a6⟩:=u0.aY;obtain⟨z3,z2,z1,z0,y9,y8⟩:=sN.aY;have R:∀z,z≠w.heap.size+1->((((((w11.setCell ⟨w.heap.size+1,0,none⟩ (.int .i64 s.t.k)).setCell ⟨w.heap.size+1,1,none⟩ (.int .i64 s.t.n)).setCell ⟨w.heap.size+1,2,none⟩ (.slice p0 s.t.len q0)).setCell ⟨w.heap.size+1,3,none⟩ (.slice (some ⟨gI,0,none⟩) s.K.length Z)).setCell ⟨w.heap.size+1,4,none⟩ (.slice p2 s.f.length q2)).setCell ⟨w.heap.size+1,5,none⟩ (.slice p3 s.d.length q3)).heap[z]?=w11.heap[z]?:=fun z A=>(((((fD _ _ _ _ A).trans (fD _ _ _ _ A)).trans (fD _ _ _ _ A)).trans (fD _ _ _ _ A)).trans (fD _ _ _ _ A)).trans (fD _ _ _ _ A);clear M J I H F O;have r7:=o1.out;have zW:((((((w11.setCell ⟨w.heap.size+1,0,none⟩ (.int .i64 s.t.k)).setCell ⟨w.heap.size+1,1,none⟩ (.int .i64 s.t.n)).setCell ⟨w.heap.size+1,2,none⟩ (.slice p0 s.t.len q0)).setCell ⟨w.heap.size+1,3,none⟩ (.slice (some ⟨gI,0,none⟩) s.K.length Z)).setCell ⟨w.heap.size+1,4,none⟩ (.slice p2 s.f.length q2)).setCell ⟨w.heap.size+1,5,none⟩ (.slice p3 s.d.length q3)).heap.size=w11.heap.size:=by simp
   have bT:Hid (fF ((((((w11.setCell ⟨w.heap.size+1,0,none⟩ (.int .i64 s.t.k)).setCell ⟨w.heap.size+1,1,none⟩ (.int .i64 s.t.n)).setCell ⟨w.heap.size+1,2,none⟩ (.slice p0 s.t.len q0)).setCell ⟨w.heap.size+1,3,none⟩ (.slice (some ⟨gI,0,none⟩) s.K.length Z)).setCell ⟨w.heap.size+1,4,none⟩ (.slice p2 s.f.length q2)).setCell ⟨w.heap.size+1,5,none⟩ (.slice p3 s.d.length q3)) (fun z=>w.heap.size+2<=z) (.slice p0 s.t.len q0) (.slice (some ⟨gI,0,none⟩) s.K.length Z) (.slice p2 s.f.length q2) (.slice p3 s.d.length q3) ⟨s.t,jS s.K j l,s.f,s.d⟩):=by
    intro V hV;have oL:=cM.out;have oI:=l6.out;have p5:∀z,w.heap.size+2<=z->z<w11.heap.size->V.heap[z]?=w11.heap[z]?:=fun z h1 h2=>(hV z h1 (by rw[zW];exact h2)).trans (R z (by omega));exact r1.out V ((p5 gI (by omega) (by omega)).trans hW.out) fun z h1 h2 h3=>(p5 z (by omega) (by omega)).trans (cS.out z h2 h3)
   have z6:Hid (jU w.heap.size w ((((((w11.setCell ⟨w.heap.size+1,0,none⟩ (.int .i64 s.t.k)).setCell ⟨w.heap.size+1,1,none⟩ (.int .i64 s.t.n)).setCell ⟨w.heap.size+1,2,none⟩ (.slice p0 s.t.len q0)).setCell ⟨w.heap.size+1,3,none⟩ (.slice (some ⟨gI,0,none⟩) s.K.length Z)).setCell ⟨w.heap.size+1,4,none⟩ (.slice p2 s.f.length q2)).setCell ⟨w.heap.size+1,5,none⟩ (.slice p3 s.d.length q3))):=((((((e1.setCell (by simp) _).setCell (by simp) _).setCell (by simp) _).setCell (by simp) _).setCell (by simp) _).setCell (by simp) _);clear R sN r7 zW;go_wp2_with fail;refine gZ (v:= .tuple #[sv s.t.k s.t.n (.slice p0 s.t.len q0) (.slice (some ⟨gI,0,none⟩) s.K.length Z) (.slice p2 s.f.length q2) (.slice p3 s.d.length q3),.bool true]) (by simp[results,qA,go_sem,z3,z2,z1,z0,y9,y8];try rfl) rfl ?_;exact .inl ⟨_,HN.out,_,_,_,_,rfl,bT.out,z6.out⟩
attribute [local go_sem ↓] Go.wp_at_zero Go.wp_at_succ
theorem Rd.aO {A:gY}{s:Option Nat}(h:Rd B w g v n p)(hg:w.grownBy A s)(hr:∀q,s=some q->g<q):Rd B A g v n p:=by
 refine⟨?_,?_,h.few,h.here,wR h.size hg.size⟩
 ·unfold Bk;rw[hg.block g h.blk.lt (fun e=>by have:=hr g e.symm;omega)];exact h.blk
 ·obtain⟨a,H,rfl,h1,h2,h3⟩:=h.bytes;refine⟨a,H,rfl,h1,h2,fun i hi=>?_⟩;obtain⟨b,off,z,rfl,F,I,h4,h5⟩:=h3 i hi;have J:=h.here;have hs:=h.size;have D:=jU.grown (fH B w) hg h.size (fun k e=>by have:=hr k e;omega);exact⟨b,off,z,rfl,F,by rw[D.cell (p:=⟨b,_,none⟩) F];exact I,h4,h5⟩
theorem Bx.dm {a:gY}(h:Bx g a w){q:Addr}(hq:a.heap.size<=q.block)(u:fV):Bx g a (w.setCell q u):=
 ⟨h.os,h.tape,h.output,by simpa[gY.setCell]using h.size,fun k s hg=>by rw[fD _ _ _ _ (by omega)];exact h.block k s hg⟩
def uJ (r:Rw):Prop:=cU r=true
theorem Kt {K V A B a B' D:Int}(h:uJ (((K,V),(A,B)),D))(s:bH a B'=true):uJ (((K,V),(a,B')),D):=by
 unfold uJ at h ⊢;simp only[cU,Bool.and_eq_true]at h ⊢
 simp_all
theorem L9 {l m:List Rw}{s:Sp}{D:Int}(hr:l[j]?=some (s,D))(h:aM m=aM (l.take j))(s':Sp):aM (m++[(s',D)])=aM (l.take (j+1)):=by
 rw[List.take_add_one,hr,gJ,gJ,h]
 rfl
theorem Cl (h:Rd B w g v n p)(hp:0<=p)(n5:p<=700000)(lv fv:fV)(l:List Rw)(F:LI)(hl:∀W,Bx g w W->Rs W lv l)(hf:∀W,Bx g w W->Ts W fv F)(a1:∀r∈l,uJ r)(l7:l.length<=10)(hF:F.length<=100):
  iC rN 126 #[.pointer (some ⟨g,0,none⟩),lv,fv] w fun e w'=>∃(o:fV)(m:List Rw),e=.returned o/\m.length=l.length/\aM m=aM l/\(∀r∈m,uJ r)/\aD w' w.heap.size o (iT m)/\(∃H:Int,p<=H/\H<=p+10/\Rd B w' g v n H)/\Bx g w w':=by
 have hg:=h.blk.lt;have HG:Hid (g<w.heap.size):=hg;have HL:=(show Hid (∀W,Bx g w W->Rs W lv l) from hl);have HF:=(show Hid (∀W,Bx g w W->Ts W fv F) from hf);have HS:=(show Hid (∀r∈l,uJ r) from a1);obtain⟨aL,cL,rfl,o5,g0,-⟩:=Rs.open (hl w (Bx.refl _ _));unfold maxLen at g0;obtain⟨aF,cF,rfl,-⟩:=hf w (Bx.refl _ _);have h0:=h.aX (aG (fH _ _) (.cells #[] 55));have x0:Bx g w (w.alloc (.cells #[] 55)):=(Bx.refl _ _).alloc _;have o0:=dW w rfl;clear hl hf a1;go_enter Tryz.func126,Tryz.ntmps126;go_wp2_with fail
 go_loopw [7,8] (fun o i wr=>∃(j:Nat)(m:List Rw)(H:Int),j<=l.length/\i=.int .i64 j/\m.length=j/\aM m=aM (l.take j)/\(∀r∈m,uJ r)/\aD wr w.heap.size o m/\p<=H/\H<=p+j/\Rd B wr g v n H/\Bx g w wr) (fun _ i _=>l.length-(intOf i).toNat)
 case atStart=>exact⟨0,[],p,by omega,rfl,rfl,by simp,by simp,o0,by omega,by omega,h0,x0⟩
 case round=>
  clear o0 x0 h0;obtain⟨j,m,H,hj,rfl,a5,a7,z9,y6,f8,n4,hr,hx⟩:=hrel;have HO:Hid (aD wr w.heap.size u7 m):=y6;have z5:Hid (∀r∈m,uJ r):=z9;have y5:=hx.size;have i3:Hid (∀q,u7.ownBlock=some q->q<wr.heap.size):=fun q e=>oT y6 q e;have z6:Hid (m.length=j):=a5;have b6:Hid (aM m=aM (l.take j)):=a7;clear a7;have n6:m.length<=10:=by omega
  clear y6 z9 a5
  by_cases g1:j<l.length
  ·obtain⟨o9,o7,e,-,-,-,x5⟩:=Rs.open (HL.out wr hx);obtain⟨gr,off,K,V,A,a,D,rfl,o3,u0,c0,c1,c2,c3,c4⟩:=x5 j g1;cases e;have y9:Hid (uJ (((K,V),(A,a)),D)):=HS.out _ (kR u0);have w7:Hid (∀s':Sp,aM (m++[(s',D)])=aM (l.take (j+1))):=fun s'=>L9 u0 b6.out s';have ij:(j:Int)<(l.length:Int):=by omega
   have U:Bx g w (wr.alloc (.cells #[.int .i64 K,.int .i64 V,.int .i64 A,.int .i64 a,.int .i64 D] 55)):=hx.alloc _;have u4:Rd B (wr.alloc (.cells #[.int .i64 K,.int .i64 V,.int .i64 A,.int .i64 a,.int .i64 D] 55)) g v n H:=hr.aX (aG (fH _ _) _);have bb:Bk (wr.alloc (.cells #[.int .i64 K,.int .i64 V,.int .i64 A,.int .i64 a,.int .i64 D] 55)) wr.heap.size #[.int .i64 K,.int .i64 V,.int .i64 A,.int .i64 a,.int .i64 D] 55:=Bk.new _ _ rfl;have OB:Hid (aD (wr.alloc (.cells #[.int .i64 K,.int .i64 V,.int .i64 A,.int .i64 a,.int .i64 D] 55)) w.heap.size u7 m):=HO.out.alloc _;clear x5 u0 HO
   by_cases a8:F.length=0
   ·have g9:decide (0<F.length)=false:=by simp[a8]
    clear a8;obtain⟨z0,z1,z2,z3,z4⟩:=(bb).aa;have S:aD ((wr.alloc (.cells #[.int .i64 K,.int .i64 V,.int .i64 A,.int .i64 a,.int .i64 D] 55)).alloc (.cells #[.int .i64 K,.int .i64 V,.int .i64 A,.int .i64 a,.int .i64 D] 55)) w.heap.size u7 m:=(OB.out).alloc _;have x2:w.heap.size<=((wr.alloc (.cells #[.int .i64 K,.int .i64 V,.int .i64 A,.int .i64 a,.int .i64 D] 55)).alloc (.cells #[.int .i64 K,.int .i64 V,.int .i64 A,.int .i64 a,.int .i64 D] 55)).heap.size:=by have:=(U).size;simp;omega
    go_wp2_with (at_builtin;refine jZ _ rfl _ _ rfl w.heap.size _ m rfl S _ _ _ _ _ _ rfl (Bk.new _ _ (by first|rfl|simp)) (by omega) x2 ?_;intro g5 v6 Z R J a6)
    have x3:Bx g w ((wr.alloc (.cells #[.int .i64 K,.int .i64 V,.int .i64 A,.int .i64 a,.int .i64 D] 55)).alloc (.cells #[.int .i64 K,.int .i64 V,.int .i64 A,.int .i64 a,.int .i64 D] 55)):=(U).alloc _;have Y:Bx g w Z:=x3.grown J (fun q e=>oB S q e);have x1:Rd B Z g v n H:=(Rd.aX (u4) (aG (fH _ _) _)).aO J (fun q e=>by have:=oB S q e;have:=HG.out;omega);have x7:Hid (∀r∈m++[(((K,V),(A,a)),D)],uJ r):=fun r hr=>by
     rcases lY.1 hr with h|h
     ·exact z5.out r h
     ·rw[kX.1 h];exact y9.out
    exact⟨⟨j+1,m++[(((K,V),(A,a)),D)],H,by omega,by go_num,by rw[lI,z6.out];rfl,w7.out _,x7.out,R,by omega,by omega,x1,Y⟩,by simp[intOf];omega⟩
   have g9:decide (0<F.length)=true:=by simp;omega
   have o6:(0:Int)<(F.length:Int):=by omega
   cases u8:cC F
   ·go_wp2_with fail;generalize v5:(wr.alloc (.cells #[.int .i64 K,.int .i64 V,.int .i64 A,.int .i64 a,.int .i64 D] 55))=wb at*;refine (sQ u8 (HF.out wb U)).mono ?_;rintro e w2 ⟨rfl,s⟩;have x4:=U.trans (Bx.aA s);have y8:=u4.aX s;have b2:=bb.keep s;have O2:=bJ OB.out s;clear c0 c1 c2 c3 c4 v5;obtain⟨z0,z1,z2,z3,z4⟩:=(b2).aa;have S:aD (w2.alloc (.cells #[.int .i64 K,.int .i64 V,.int .i64 A,.int .i64 a,.int .i64 D] 55)) w.heap.size u7 m:=(O2).alloc _;have x2:w.heap.size<=(w2.alloc (.cells #[.int .i64 K,.int .i64 V,.int .i64 A,.int .i64 a,.int .i64 D] 55)).heap.size:=by have:=(x4).size;simp;omega
    go_wp2_with (at_builtin;refine jZ _ rfl _ _ rfl w.heap.size _ m rfl S _ _ _ _ _ _ rfl (Bk.new _ _ (by first|rfl|simp)) (by omega) x2 ?_;intro g5 v6 Z R J a6)
    have x3:Bx g w (w2.alloc (.cells #[.int .i64 K,.int .i64 V,.int .i64 A,.int .i64 a,.int .i64 D] 55)):=(x4).alloc _;have Y:Bx g w Z:=x3.grown J (fun q e=>oB S q e);have x1:Rd B Z g v n H:=(Rd.aX (y8) (aG (fH _ _) _)).aO J (fun q e=>by have:=oB S q e;have:=HG.out;omega);have x7:Hid (∀r∈m++[(((K,V),(A,a)),D)],uJ r):=fun r hr=>by
     rcases lY.1 hr with h|h
     ·exact z5.out r h
     ·rw[kX.1 h];exact y9.out
    exact⟨⟨j+1,m++[(((K,V),(A,a)),D)],H,by omega,by go_num,by rw[lI,z6.out];rfl,w7.out _,x7.out,R,by omega,by omega,x1,Y⟩,by simp[intOf];omega⟩
   ·go_wp2_with fail;generalize v5:(wr.alloc (.cells #[.int .i64 K,.int .i64 V,.int .i64 A,.int .i64 a,.int .i64 D] 55))=wb at*;refine (sQ u8 (HF.out wb U)).mono ?_;rintro e w2 ⟨rfl,s⟩;have x4:=U.trans (Bx.aA s);have y8:=u4.aX s;have b2:=bb.keep s;have O2:Hid (aD w2 w.heap.size u7 m):=bJ OB.out s;have w9:=x4.drew;have a2:Rd B w2.drew g v n H:=y8.aX (fH _ _).drew;have bD:=b2.drew;obtain⟨y0,y1,y2,y3,y4⟩:=b2.aa;obtain⟨v0,v1,v2,v3,v4⟩:=bD.aa;clear c0 c1 c2 c3 c4 v5;have b0:B<=wr.heap.size:=hr.size;have x8:wr.heap.size≠g:=by have:=HG.out;omega
    have g8:(F.length:Int)<=1000:=by omega
    have d3:(1:Int)<=(F.length:Int):=by omega
    go_wp2_with fail
    go_region_with (first
     | (go_at_call 60;refine (pA a2 (by omega) (by omega) _ d3 g8).mono ?_;rintro e w3 ⟨kI,rfl,g4,o1,a4,y7⟩;obtain⟨I,rfl⟩:=Int.eq_ofNat_of_zero_le g4;have b3:=bD.aN y7 x8;have x9:=w9.trans y7;obtain⟨t0,t1,t2,t3,t4⟩:=b3.aa;obtain⟨p1,o8,eF,_,_,_,g7⟩:=HF.out w3 x9;obtain⟨gf,l5,i1,o4,f0,f1⟩:=g7 I (by omega);cases eF;cases i1;have b1:Hid (aD w3 w.heap.size u7 m):=oX O2.out.drew y7 HG.out)
     | (go_at_call 130;refine (m6 A a (tA F I) (tB F I) _).mono ?_;rintro e w4 ⟨rfl,x6⟩;have b4:=b3.keep x6;obtain⟨s0,s1,s2,s3,s4⟩:=b4.aa;have g2:=b4.free 2;have g3:=b4.free 3))
    all_goals
     have a0:=x9.trans (Bx.aA x6);have a3:=a4.aX x6;have O4:aD w4 w.heap.size u7 m:=bJ b1.out x6;have c9:bH (tA F I) (tB F I)=true:=JJ u8 (by omega);have d0:bH A a=true:=qY y9.out;have i5:Hid (uJ (((K,V),(iE A a (tA F I) (tB F I),iF A a (tA F I) (tB F I))),D)):=Kt y9.out (yM d0 c9);generalize iE A a (tA F I) (tB F I)=O at*;generalize iF A a (tA F I) (tB F I)=M at*;have b5:Bk ((w4.setCell ⟨wr.heap.size,2,none⟩ (.int .i64 O)).setCell ⟨wr.heap.size,3,none⟩ (.int .i64 M)) wr.heap.size #[.int .i64 K,.int .i64 V,.int .i64 O,.int .i64 M,.int .i64 D] 55:=by simpa using (b4.set 2 (.int .i64 O)).set 3 (.int .i64 M)
     have Y:Bx g w ((w4.setCell ⟨wr.heap.size,2,none⟩ (.int .i64 O)).setCell ⟨wr.heap.size,3,none⟩ (.int .i64 M)):=(a0.dm (show w.heap.size<=wr.heap.size from y5) _).dm (show w.heap.size<=wr.heap.size from y5) _;have f7:Rd B ((w4.setCell ⟨wr.heap.size,2,none⟩ (.int .i64 O)).setCell ⟨wr.heap.size,3,none⟩ (.int .i64 M)) g v n (H+1):=(a3.apart (q:=⟨wr.heap.size,2,none⟩) (fun e=>x8 e.symm) b0 _).apart (q:=⟨wr.heap.size,3,none⟩) (fun e=>x8 e.symm) b0 _;have O5:aD ((w4.setCell ⟨wr.heap.size,2,none⟩ (.int .i64 O)).setCell ⟨wr.heap.size,3,none⟩ (.int .i64 M)) w.heap.size u7 m:=dF O4 fun q e=>by
      have:=i3.out q e;rw[fD _ _ _ _ (show q≠wr.heap.size by omega),fD _ _ _ _ (show q≠wr.heap.size by omega)]
     clear b2 b3 b4 bD x4 y7 x9 a0 w9 y8 a4 a3 a2 O2 b1 O4 y0 y1 y2 y3 y4 v0 v1 v2 v3 v4 t0 t1 t2 t3 t4 s0 s1 s2 s3 s4 g2 g3 s x6 f0 f1;generalize ((w4.setCell ⟨wr.heap.size,2,none⟩ (.int .i64 O)).setCell ⟨wr.heap.size,3,none⟩ (.int .i64 M))=Z at*;obtain⟨z0,z1,z2,z3,z4⟩:=(b5).aa;have S:aD (Z.alloc (.cells #[.int .i64 K,.int .i64 V,.int .i64 O,.int .i64 M,.int .i64 D] 55)) w.heap.size u7 m:=(O5).alloc _;have x2:w.heap.size<=(Z.alloc (.cells #[.int .i64 K,.int .i64 V,.int .i64 O,.int .i64 M,.int .i64 D] 55)).heap.size:=by have:=(Y).size;simp;omega
     go_wp2_with (at_builtin;refine jZ _ rfl _ _ rfl w.heap.size _ m rfl S _ _ _ _ _ _ rfl (Bk.new _ _ (by first|rfl|simp)) (by omega) x2 ?_;intro g5 v6 w6 R J a6)
     have x3:Bx g w (Z.alloc (.cells #[.int .i64 K,.int .i64 V,.int .i64 O,.int .i64 M,.int .i64 D] 55)):=(Y).alloc _;have f6:Bx g w w6:=x3.grown J (fun q e=>oB S q e);have x1:Rd B w6 g v n (H+1):=(Rd.aX (f7) (aG (fH _ _) _)).aO J (fun q e=>by have:=oB S q e;have:=HG.out;omega);have x7:Hid (∀r∈m++[(((K,V),(O,M)),D)],uJ r):=fun r hr=>by
      rcases lY.1 hr with h|h
      ·exact z5.out r h
      ·rw[kX.1 h];exact i5.out
     exact⟨⟨j+1,m++[(((K,V),(O,M)),D)],(H+1),by omega,by go_num,by rw[lI,z6.out];rfl,w7.out _,x7.out,R,by omega,by omega,x1,f6⟩,by simp[intOf];omega⟩
  ·obtain rfl:j=l.length:=by omega
   have R1:Rs wr u7 m:=aD.rs HO.out (by omega);go_wp2_with fail;refine (sX u7 m _ R1).mono ?_;rintro e w2 ⟨o2,rfl,z8,s⟩;have j1:Hid (aD w2 wr.heap.size o2 (iT m)):=z8;clear z8;go_wp2_with fail;go_ret;exact⟨_,m,rfl,z6.out,(by rw[b6.out,List.take_length]),z5.out,bQ j1.out y5,⟨H,f8,by omega,hr.aX s⟩,hx.trans (Bx.aA s)⟩
theorem CK (l:List Rw):aM (iT l)<=aM l:=by
 unfold iT;split
 ·exact JC l
 ·exact nE l
theorem NA {l:List Rw}{n:Int}(hn:(l.length:Int)<=n)(h:∀r∈l,lN r):aM l<=3*n:=by
 have h1:=lQ (l:=l) (c:=3) fun r hr=>(h r hr).2;omega
theorem CQ (l:List Rw):(iT l).length<=l.length:=by
 unfold iT;split
 ·exact LQ l
 ·simp
def fu (b:Bool)(k:Int):Int:=if b then k else 0
theorem fN (h:i≠j):fu ((L.setIfInBounds i true).getD j false) k=fu (L.getD j false) k:=by
 simp[fu,Array.getD_eq_getD_getElem?,sH h]
theorem yS (h:i<L.size):fu ((L.setIfInBounds i true).getD i false) k=k:=by
 rw[gH h];rfl
theorem D3 (h:L.getD i true=false):fu (L.getD i false) k=0:=by
 have:L.getD i false=false:=by
  cases e:L.getD i false
  ·rfl
  ·exact (gN e h).elim
 rw[this];rfl
def pD (G:SS->Prop)(W:gY)(P:Nat->Prop)(x o:fV):Prop:=∃(s:SS)(sp si sf sd:fV)(ok:Bool),x=sv s.t.k s.t.n sp si sf sd/\o=.bool ok/\(ok=true->G s)/\fF W P sp si sf sd s
theorem pD.move {G:SS->Prop}{W a:gY}{P Q:Nat->Prop}{x:fV}(h:pD G W P x o)(H:∀z,P z->z<W.heap.size->Q z/\a.heap[z]?=W.heap[z]?)(hs:W.heap.size<=a.heap.size):pD G a Q x o:=by
 obtain⟨s,sp,si,sf,sd,A,h1,h2,h3,h4⟩:=h;exact⟨s,sp,si,sf,sd,A,h1,h2,h3,h4.move H hs⟩
theorem pD.wk {G:SS->Prop}{W:gY}{P Q:Nat->Prop}{x:fV}(h:pD G W P x o)(H:∀z,P z->z<W.heap.size->Q z):pD G W Q x o:=h.move (fun z a hl=>⟨H z a hl,rfl⟩) (wH _)
def OK (B g N:Nat)(v:fV)(n:Nat)(p0 f:Int)(G:SS->Prop)(W:gY)(x o:fV):Prop:=
 ∃(q:Nat)(k2 n2:Int)(e0 e1 e2 e3:fV)(p3:Int),x=.pointer (some ⟨q,0,none⟩)/\N<=q/\Bk W q #[.int .i64 k2,.int .i64 n2,e0,e1,e2,e3] 30/\pD G W (fun z=>N<=z/\z≠q) (sv k2 n2 e0 e1 e2 e3) o/\p0<=p3/\p3<=p0+f/\Rd B W g v n p3
structure fQ (B g N:Nat)(v:fV)(n:Nat)(p0:Int)(G:SS->Prop)(SV FV:fV)(b:Nat)(L:Array Bool)(W:gY)(t6 t7 t8 t26 t27 t28 t29 t30 t31 t32 t33 t34:fV):Prop where
 rd:∃p3:Int,p0<=p3/\p3<=p0+(fu (L.getD 3 false) 500)/\Rd B W g v n p3
 s0:L.getD 0 false=true->t27=SV
 s1:L.getD 1 false=true->t28=.pointer (some ⟨g,0,none⟩)
 s2:L.getD 2 false=true->t29=SV
 s3:L.getD 3 false=true->∃f:LI,f.length<=1000/\aW W N t30 f
 s4:L.getD 4 false=true->∃x m o:fV,t31=.tuple #[x,m,o]/\pD G W (fun z=>N<=z/\(L.getD 9 false=true->t6≠ .pointer (some ⟨z,0,none⟩))) x o
 s5:L.getD 5 false=true->t26=t31
 s6:L.getD 6 false=true->∃x m o:fV,t31=.tuple #[x,m,o]/\t32=x
 s7:L.getD 7 false=true->∃x m o:fV,t31=.tuple #[x,m,o]/\t33=m
 s8:L.getD 8 false=true->∃x m o:fV,t31=.tuple #[x,m,o]/\t34=o
 s9:L.getD 9 false=true->∃q:Nat,t6=.pointer (some ⟨q,0,none⟩)/\N<=q
 s10:L.getD 10 false=true->∃(q:Nat)(k2 n2:Int)(e0 e1 e2 e3:fV)(m o:fV),t6=.pointer (some ⟨q,0,none⟩)/\N<=q/\t31=.tuple #[sv k2 n2 e0 e1 e2 e3,m,o]/\Bk W q #[.int .i64 k2,.int .i64 n2,e0,e1,e2,e3] 30
 s11:L.getD 11 false=true->∃x m o:fV,t31=.tuple #[x,m,o]/\t7=m
 s12:L.getD 12 false=true->∃x m o:fV,t31=.tuple #[x,m,o]/\t8=o
 c5:L.getD 5 false=true->L.getD 4 false=true
 c6:L.getD 6 false=true->L.getD 4 false=true
 c7:L.getD 7 false=true->L.getD 4 false=true
 c8:L.getD 8 false=true->L.getD 4 false=true
 c10:L.getD 10 false=true->L.getD 4 false=true
 c11:L.getD 11 false=true->L.getD 4 false=true
 c12:L.getD 12 false=true->L.getD 4 false=true
 d:L.getD 10 false=true->L.getD 9 false=true
 z:L.getD 9 false=true->L.getD 10 true=false->∃q:Nat,t6=.pointer (some ⟨q,0,none⟩)/\N<=q/\Bk W q #[.int .i64 0,.int .i64 0,.slice none 0 0,.slice none 0 0,.slice none 0 0,.slice none 0 0] 30
section
variable {B g N:Nat}{v:fV}{n:Nat}{p0:Int}{G:SS->Prop}{SV FV:fV}{b:Nat}{L:Array Bool}{W W':gY}{t6 t7 t8 t26 t27 t28 t29 t30 t31 t32 t33 t34:fV}
theorem fQ.keep (h:fQ B g N v n p0 G SV FV b L W t6 t7 t8 t26 t27 t28 t29 t30 t31 t32 t33 t34)(a:jU W.heap.size W W')(hg:g<N):fQ B g N v n p0 G SV FV b L W' t6 t7 t8 t26 t27 t28 t29 t30 t31 t32 t33 t34 where
 rd:=by obtain⟨p3,h1,h2,h3⟩:=h.rd;exact⟨p3,h1,h2,h3.aX a⟩
 s0:=h.s0
 s1:=h.s1
 s2:=h.s2
 s3:=fun e=>by have hx:Bx g W W':=Bx.aA a;exact (by obtain⟨O,M,F⟩:=h.s3 e;exact⟨O,M,oX F hx hg⟩)
 s4:=fun e=>by have hx:Bx g W W':=Bx.aA a;exact (by obtain⟨x,m,o,s,J⟩:=h.s4 e;exact⟨x,m,o,s,J.move (fun z D hl=>⟨D,hx.block z hl (by have:=D.1;omega)⟩) hx.size⟩)
 s5:=h.s5
 s6:=h.s6
 s7:=h.s7
 s8:=h.s8
 s9:=h.s9
 s10:=fun e=>by have hx:Bx g W W':=Bx.aA a;exact (by obtain⟨q,H,n2,e0,s,A,I,m,o,h1,h2,h3,h4⟩:=h.s10 e;exact⟨q,H,n2,e0,s,A,I,m,o,h1,h2,h3,h4.aN hx (by omega)⟩)
 s11:=h.s11
 s12:=h.s12
 c5:=h.c5
 c6:=h.c6
 c7:=h.c7
 c8:=h.c8
 c10:=h.c10
 c11:=h.c11
 c12:=h.c12
 d:=h.d
 z:=fun s A=>by obtain⟨q,h1,h2,h3⟩:=h.z s A;exact⟨q,h1,h2,h3.keep a⟩
theorem fQ.be (h:fQ B g N v n p0 G SV FV b L W t6 t7 t8 t26 t27 t28 t29 t30 t31 t32 t33 t34)(A:u=SV):fQ B g N v n p0 G SV FV b (L.setIfInBounds 0 true) W t6 t7 t8 t26 u t28 t29 t30 t31 t32 t33 t34:=by
 have D:=h;cases D;constructor
 case rd=>exact by obtain⟨p3,h1,h2,h3⟩:=h.rd;exact⟨p3,h1,by rw[fN (i:=0) (j:=3) (by decide)];exact h2,h3⟩
 case s0=>exact fun _=>A
 case s4=>exact fun e=>by obtain⟨x,m,o,F,H⟩:=h.s4 (gS e);exact⟨x,m,o,F,H.wk fun z a _=>⟨a.1,fun e=>a.2 (gS e)⟩⟩
 all_goals (intro e;replace e:=gS e;first|solve_by_elim|exact a9 (by solve_by_elim)|(intro s;replace s:=gT s;solve_by_elim))
theorem fQ.bG (h:fQ B g N v n p0 G SV FV b L W t6 t7 t8 t26 t27 t28 t29 t30 t31 t32 t33 t34)(A:u=.pointer (some ⟨g,0,none⟩)):fQ B g N v n p0 G SV FV b (L.setIfInBounds 1 true) W t6 t7 t8 t26 t27 u t29 t30 t31 t32 t33 t34:=by
 have D:=h;cases D;constructor
 case rd=>exact by obtain⟨p3,h1,h2,h3⟩:=h.rd;exact⟨p3,h1,by rw[fN (i:=1) (j:=3) (by decide)];exact h2,h3⟩
 case s1=>exact fun _=>A
 case s4=>exact fun e=>by obtain⟨x,m,o,F,H⟩:=h.s4 (gS e);exact⟨x,m,o,F,H.wk fun z a _=>⟨a.1,fun e=>a.2 (gS e)⟩⟩
 all_goals (intro e;replace e:=gS e;first|solve_by_elim|exact a9 (by solve_by_elim)|(intro s;replace s:=gT s;solve_by_elim))
theorem fQ.au (h:fQ B g N v n p0 G SV FV b L W t6 t7 t8 t26 t27 t28 t29 t30 t31 t32 t33 t34)(A:u=SV):fQ B g N v n p0 G SV FV b (L.setIfInBounds 2 true) W t6 t7 t8 t26 t27 t28 u t30 t31 t32 t33 t34:=by
 have D:=h;cases D;constructor
 case rd=>exact by obtain⟨p3,h1,h2,h3⟩:=h.rd;exact⟨p3,h1,by rw[fN (i:=2) (j:=3) (by decide)];exact h2,h3⟩
 case s2=>exact fun _=>A
 case s4=>exact fun e=>by obtain⟨x,m,o,F,H⟩:=h.s4 (gS e);exact⟨x,m,o,F,H.wk fun z a _=>⟨a.1,fun e=>a.2 (gS e)⟩⟩
 all_goals (intro e;replace e:=gS e;first|solve_by_elim|exact a9 (by solve_by_elim)|(intro s;replace s:=gT s;solve_by_elim))
theorem fQ.ar (hg:g<N)(O:L.size=13)(D:L.getD 3 true=false)(h:fQ B g N v n p0 G SV FV b L W t6 t7 t8 t26 t27 t28 t29 t30 t31 t32 t33 t34)(hx:Bx g W W')(h1:p0<=p3)(h2:p3<=p0+(fu (L.getD 3 false) 500))(h3:p3<=p4)(h4:p4<=p3+500)(hr:Rd B W' g v n p4)(H:∃f:LI,f.length<=1000/\aW W' N u f):fQ B g N v n p0 G SV FV b (L.setIfInBounds 3 true) W' t6 t7 t8 t26 t27 t28 t29 u t31 t32 t33 t34:=by
 have I:=h;cases I;constructor
 case rd=>exact⟨p4,by omega,by rw[yS (i:=3) (by omega)];rw[D3 D]at h2;omega,hr⟩
 case s3=>exact fun _=>H
 case s4=>exact fun e=>by obtain⟨x,m,o,a,M⟩:=h.s4 (gS e);exact⟨x,m,o,a,M.move (fun z s hl=>⟨⟨s.1,fun e=>s.2 (gS e)⟩,hx.block z hl (by have:=s.1;omega)⟩) hx.size⟩
 case s10=>exact fun e=>(by obtain⟨q,F,n2,e0,a,A,J,m,o,h1,h2,h3,h4⟩:=h.s10 (gS e);exact⟨q,F,n2,e0,a,A,J,m,o,h1,h2,h3,h4.aN hx (by omega)⟩)
 case z=>exact fun a A=>by obtain⟨q,h1,h2,h3⟩:=h.z (gS a) (gT A);exact⟨q,h1,h2,h3.aN hx (by omega)⟩
 all_goals (intro e;replace e:=gS e;first|solve_by_elim|exact a9 (by solve_by_elim))
theorem fQ.aq (a:L.getD 4 false=true->False)(h:fQ B g N v n p0 G SV FV b L W t6 t7 t8 t26 t27 t28 t29 t30 t31 t32 t33 t34)(D:∃x m o:fV,u=.tuple #[x,m,o]/\pD G W (fun z=>N<=z/\(L.getD 9 false=true->t6≠ .pointer (some ⟨z,0,none⟩))) x o):fQ B g N v n p0 G SV FV b (L.setIfInBounds 4 true) W t6 t7 t8 t26 t27 t28 t29 t30 u t32 t33 t34:=by
 have F:=h;cases F;constructor
 case rd=>exact by obtain⟨p3,h1,h2,h3⟩:=h.rd;exact⟨p3,h1,by rw[fN (i:=4) (j:=3) (by decide)];exact h2,h3⟩
 case s4=>exact fun _=>by obtain⟨x,m,o,H,I⟩:=D;exact⟨x,m,o,H,I.wk fun z s _=>⟨s.1,fun e=>s.2 (gS e)⟩⟩
 case s5=>exact fun e=>(a (h.c5 (gS e))).elim
 case s6=>exact fun e=>(a (h.c6 (gS e))).elim
 case s7=>exact fun e=>(a (h.c7 (gS e))).elim
 case s8=>exact fun e=>(a (h.c8 (gS e))).elim
 case s10=>exact fun e=>(a (h.c10 (gS e))).elim
 case s11=>exact fun e=>(a (h.c11 (gS e))).elim
 case s12=>exact fun e=>(a (h.c12 (gS e))).elim
 all_goals (intro e;replace e:=gS e;first|solve_by_elim|exact a9 (by solve_by_elim)|(intro A;replace A:=gT A;solve_by_elim))
theorem fQ.ai (hl:L.getD 4 false=true)(h:fQ B g N v n p0 G SV FV b L W t6 t7 t8 t26 t27 t28 t29 t30 t31 t32 t33 t34)(A:u=t31):fQ B g N v n p0 G SV FV b (L.setIfInBounds 5 true) W t6 t7 t8 u t27 t28 t29 t30 t31 t32 t33 t34:=by
 have D:=h;cases D;constructor
 case rd=>exact by obtain⟨p3,h1,h2,h3⟩:=h.rd;exact⟨p3,h1,by rw[fN (i:=5) (j:=3) (by decide)];exact h2,h3⟩
 case s5=>exact fun _=>A
 case s4=>exact fun e=>by obtain⟨x,m,o,F,H⟩:=h.s4 (gS e);exact⟨x,m,o,F,H.wk fun z a _=>⟨a.1,fun e=>a.2 (gS e)⟩⟩
 case c5=>exact fun e=>a9 (hl)
 all_goals (intro e;replace e:=gS e;first|solve_by_elim|exact a9 (by solve_by_elim)|(intro s;replace s:=gT s;solve_by_elim))
theorem fQ.bm (hl:L.getD 4 false=true)(h:fQ B g N v n p0 G SV FV b L W t6 t7 t8 t26 t27 t28 t29 t30 t31 t32 t33 t34)(A:∃x m o:fV,t31=.tuple #[x,m,o]/\u=x):fQ B g N v n p0 G SV FV b (L.setIfInBounds 6 true) W t6 t7 t8 t26 t27 t28 t29 t30 t31 u t33 t34:=by
 have D:=h;cases D;constructor
 case rd=>exact by obtain⟨p3,h1,h2,h3⟩:=h.rd;exact⟨p3,h1,by rw[fN (i:=6) (j:=3) (by decide)];exact h2,h3⟩
 case s6=>exact fun _=>A
 case s4=>exact fun e=>by obtain⟨x,m,o,F,H⟩:=h.s4 (gS e);exact⟨x,m,o,F,H.wk fun z a _=>⟨a.1,fun e=>a.2 (gS e)⟩⟩
 case c6=>exact fun e=>a9 (hl)
 all_goals (intro e;replace e:=gS e;first|solve_by_elim|exact a9 (by solve_by_elim)|(intro s;replace s:=gT s;solve_by_elim))
theorem fQ.bl (hl:L.getD 4 false=true)(h:fQ B g N v n p0 G SV FV b L W t6 t7 t8 t26 t27 t28 t29 t30 t31 t32 t33 t34)(A:∃x m o:fV,t31=.tuple #[x,m,o]/\u=m):fQ B g N v n p0 G SV FV b (L.setIfInBounds 7 true) W t6 t7 t8 t26 t27 t28 t29 t30 t31 t32 u t34:=by
 have D:=h;cases D;constructor
 case rd=>exact by obtain⟨p3,h1,h2,h3⟩:=h.rd;exact⟨p3,h1,by rw[fN (i:=7) (j:=3) (by decide)];exact h2,h3⟩
 case s7=>exact fun _=>A
 case s4=>exact fun e=>by obtain⟨x,m,o,F,H⟩:=h.s4 (gS e);exact⟨x,m,o,F,H.wk fun z a _=>⟨a.1,fun e=>a.2 (gS e)⟩⟩
 case c7=>exact fun e=>a9 (hl)
 all_goals (intro e;replace e:=gS e;first|solve_by_elim|exact a9 (by solve_by_elim)|(intro s;replace s:=gT s;solve_by_elim))
theorem fQ.bj (hl:L.getD 4 false=true)(h:fQ B g N v n p0 G SV FV b L W t6 t7 t8 t26 t27 t28 t29 t30 t31 t32 t33 t34)(A:∃x m o:fV,t31=.tuple #[x,m,o]/\u=o):fQ B g N v n p0 G SV FV b (L.setIfInBounds 8 true) W t6 t7 t8 t26 t27 t28 t29 t30 t31 t32 t33 u:=by
 have D:=h;cases D;constructor
 case rd=>exact by obtain⟨p3,h1,h2,h3⟩:=h.rd;exact⟨p3,h1,by rw[fN (i:=8) (j:=3) (by decide)];exact h2,h3⟩
 case s8=>exact fun _=>A
 case s4=>exact fun e=>by obtain⟨x,m,o,F,H⟩:=h.s4 (gS e);exact⟨x,m,o,F,H.wk fun z a _=>⟨a.1,fun e=>a.2 (gS e)⟩⟩
 case c8=>exact fun e=>a9 (hl)
 all_goals (intro e;replace e:=gS e;first|solve_by_elim|exact a9 (by solve_by_elim)|(intro s;replace s:=gT s;solve_by_elim))
theorem fQ.cE (J:L.size=13)(s:L.getD 9 true=false)(h0:fQ B g N v n p0 G SV FV b L W t6 t7 t8 t26 t27 t28 t29 t30 t31 t32 t33 t34)(D:N<=W.heap.size)(hg:g<N)(a:jU W.heap.size W W')(A:Bk W' W.heap.size #[.int .i64 0,.int .i64 0,.slice none 0 0,.slice none 0 0,.slice none 0 0,.slice none 0 0] 30):fQ B g N v n p0 G SV FV b (L.setIfInBounds 9 true) W' (.pointer (some ⟨W.heap.size,0,none⟩)) t7 t8 t26 t27 t28 t29 t30 t31 t32 t33 t34:=by
 have h:=h0.keep a hg;exact {
  rd:=by obtain⟨p3,h1,h2,h3⟩:=h.rd;exact⟨p3,h1,by rw[fN (i:=9) (j:=3) (by decide)];exact h2,h3⟩,
  s0:=fun e=>h.s0 (gS e),
  s1:=fun e=>h.s1 (gS e),
  s2:=fun e=>h.s2 (gS e),
  s3:=fun e=>h.s3 (gS e),
  s4:=fun e=>by obtain⟨x,m,o,H,I⟩:=h0.s4 (gS e);exact⟨x,m,o,H,I.move (fun z F hl=>⟨⟨F.1,fun _ e=>by have:=congrArg Addr.block (E0 (fV.pointer.inj e));simp at this;omega⟩,a.block z hl⟩) a.size⟩,
  s5:=fun e=>h.s5 (gS e),
  s6:=fun e=>h.s6 (gS e),
  s7:=fun e=>h.s7 (gS e),
  s8:=fun e=>h.s8 (gS e),
  s9:=fun _=>⟨_,rfl,D⟩,
  s10:=fun e=>(gN (h.d (gS e)) s).elim,
  s11:=fun e=>h.s11 (gS e),
  s12:=fun e=>h.s12 (gS e),
  c5:=fun e=>a9 (h.c5 (gS e)),
  c6:=fun e=>a9 (h.c6 (gS e)),
  c7:=fun e=>a9 (h.c7 (gS e)),
  c8:=fun e=>a9 (h.c8 (gS e)),
  c10:=fun e=>a9 (h.c10 (gS e)),
  c11:=fun e=>a9 (h.c11 (gS e)),
  c12:=fun e=>a9 (h.c12 (gS e)),
  d:=fun _=>gH (by omega),
  z:=fun _ _=>⟨_,rfl,D,A⟩ }
theorem fQ.bC {q:Nat}{D n2:Int}{e0 A s H m:fV}(x0:L.size=13)(hl:L.getD 4 false=true)(a:L.getD 9 false=true)(h:fQ B g N v n p0 G SV FV b L W t6 t7 t8 t26 t27 t28 t29 t30 t31 t32 t33 t34)(M:t6=.pointer (some ⟨q,0,none⟩))(R:N<=q)(U:t31=.tuple #[sv D n2 e0 A s H,m,o])(hq:Bk W q #[.int .i64 0,.int .i64 0,.slice none 0 0,.slice none 0 0,.slice none 0 0,.slice none 0 0] 30)(hx:∀x,x≠q->W'.heap[x]?=W.heap[x]?)(J:W'.heap.size=W.heap.size)(hr:∀p3,Rd B W g v n p3->Rd B W' g v n p3)(O:Bk W' q #[.int .i64 D,.int .i64 n2,e0,A,s,H] 30):fQ B g N v n p0 G SV FV b (L.setIfInBounds 10 true) W' t6 t7 t8 t26 t27 t28 t29 t30 t31 t32 t33 t34:=by
 have S:=h;cases S;constructor
 case rd=>exact by obtain⟨p3,h1,h2,h3⟩:=h.rd;exact⟨p3,h1,by rw[fN (i:=10) (j:=3) (by decide)];exact h2,hr p3 h3⟩
 case s3=>exact fun e=>(by obtain⟨a0,Z,I⟩:=h.s3 (gS e);exact⟨a0,Z,dF I fun z e=>hx z (by obtain⟨d,hd⟩:=mZ I e;exact bK hd hq (by decide))⟩)
 case s4=>exact fun e=>(by obtain⟨x,m,o,A,Y⟩:=h.s4 (gS e);exact⟨x,m,o,A,Y.move (fun z F hl=>⟨⟨F.1,fun _=>F.2 a⟩,hx z fun e=>F.2 a (by rw[M,e])⟩) (AT J.symm)⟩)
 case s10=>exact fun _=>⟨q,D,n2,e0,A,s,H,m,o,M,R,U,O⟩
 case c10=>exact fun e=>a9 (hl)
 case d=>exact fun _=>a9 a
 case z=>exact fun _ s=>absurd s (by rw[gH (by omega)];decide)
 all_goals (intro e;replace e:=gS e;first|solve_by_elim|exact a9 (by solve_by_elim))
theorem fQ.az (hl:L.getD 4 false=true)(h:fQ B g N v n p0 G SV FV b L W t6 t7 t8 t26 t27 t28 t29 t30 t31 t32 t33 t34)(A:∃x m o:fV,t31=.tuple #[x,m,o]/\u=m):fQ B g N v n p0 G SV FV b (L.setIfInBounds 11 true) W t6 u t8 t26 t27 t28 t29 t30 t31 t32 t33 t34:=by
 have D:=h;cases D;constructor
 case rd=>exact by obtain⟨p3,h1,h2,h3⟩:=h.rd;exact⟨p3,h1,by rw[fN (i:=11) (j:=3) (by decide)];exact h2,h3⟩
 case s11=>exact fun _=>A
 case s4=>exact fun e=>by obtain⟨x,m,o,F,H⟩:=h.s4 (gS e);exact⟨x,m,o,F,H.wk fun z a _=>⟨a.1,fun e=>a.2 (gS e)⟩⟩
 case c11=>exact fun e=>a9 (hl)
 all_goals (intro e;replace e:=gS e;first|solve_by_elim|exact a9 (by solve_by_elim)|(intro s;replace s:=gT s;solve_by_elim))
theorem fQ.aw (hl:L.getD 4 false=true)(h:fQ B g N v n p0 G SV FV b L W t6 t7 t8 t26 t27 t28 t29 t30 t31 t32 t33 t34)(A:∃x m o:fV,t31=.tuple #[x,m,o]/\u=o):fQ B g N v n p0 G SV FV b (L.setIfInBounds 12 true) W t6 t7 u t26 t27 t28 t29 t30 t31 t32 t33 t34:=by
 have D:=h;cases D;constructor
 case rd=>exact by obtain⟨p3,h1,h2,h3⟩:=h.rd;exact⟨p3,h1,by rw[fN (i:=12) (j:=3) (by decide)];exact h2,h3⟩
 case s12=>exact fun _=>A
 case s4=>exact fun e=>by obtain⟨x,m,o,F,H⟩:=h.s4 (gS e);exact⟨x,m,o,F,H.wk fun z a _=>⟨a.1,fun e=>a.2 (gS e)⟩⟩
 case c12=>exact fun e=>a9 (hl)
 all_goals (intro e;replace e:=gS e;first|solve_by_elim|exact a9 (by solve_by_elim)|(intro s;replace s:=gT s;solve_by_elim))
theorem fQ.fin (h:fQ B g N v n p0 G SV FV b L W t6 t7 t8 t26 t27 t28 t29 t30 t31 t32 t33 t34)(a:∀j,j<13->L.getD j false=true):OK B g N v n p0 (500) G W t6 t8:=by
 obtain⟨p3,h1,h2,h3⟩:=h.rd;rw[a 3 (by omega)]at h2;obtain⟨x,m,o,M,Y⟩:=h.s4 (a 4 (by omega));obtain⟨q,H,n2,e0,S,R,O,m',o',F,I,A,U⟩:=h.s10 (a 10 (by omega));obtain⟨Z,m2,o2,s,J⟩:=h.s12 (a 12 (by omega));rw[M]at A s;simp only[fV.tuple.injEq,sI.injEq,oO.injEq,and_true]at A s;obtain⟨rfl,rfl,rfl⟩:=A;obtain⟨rfl,rfl,rfl⟩:=s;exact⟨q,H,n2,e0,S,R,O,p3,F,I,U,by rw[J];exact Y.wk fun z D _=>⟨D.1,fun e=>D.2 (a 9 (by omega)) (by rw[F,e])⟩,h1,by simp only[fu]at h2;omega,h3⟩
end
def Ki (B g N:Nat)(v:fV)(n:Nat)(p0:Int)(G:SS->Prop)(SV FV:fV)(b:Nat)(f0 f1 y1 y4 y11 y12 y13 y14 y15 y16 y17 y18 y52 y53 y54 y55 y56 y57 y58 y59 y60 y61 y62 y63 y64 y65 y66 y67 y68 y69 y70 y71 y72 y73 y74 y75 y76 y77 y78 y79 y80 y81 y82:fV)(W0:gY)(L:Array Bool)(a:Act)(W:gY):Prop:=
 L.size=13/\Bx g W0 W/\∃z9 z10 z19 z20 z21 z22 z23 z24 z25 z35 z36 z37 z38 z39 z40 z41 z42 z43 z44 z45 z46 z47 z48 z49 z50 z51 t6 t7 t8 t26 t27 t28 t29 t30 t31 t32 t33 t34:fV,
  a={ tmps:=#[.pointer (some ⟨g,0,none⟩),y1,f0,.pointer (some ⟨b,0,none⟩),y4,f1,t6,t7,t8,z9,z10,y11,y12,y13,y14,y15,y16,y17,y18,z19,z20,z21,z22,z23,z24,z25,t26,t27,t28,t29,t30,t31,t32,t33,t34,z35,z36,z37,z38,z39,z40,z41,z42,z43,z44,z45,z46,z47,z48,z49,z50,z51,y52,y53,y54,y55,y56,y57,y58,y59,y60,y61,y62,y63,y64,y65,y66,y67,y68,y69,y70,y71,y72,y73,y74,y75,y76,y77,y78,y79,y80,y81,y82],defers:=[] }/\fQ B g N v n p0 G SV FV b L W t6 t7 t8 t26 t27 t28 t29 t30 t31 t32 t33 t34
theorem gW {N:Nat}{p0:Int}{G:SS->Prop}{SV FV:fV}{b:Nat}{f0 f1 y1 y4 z5 z4 z3 z2 z1 z0 y9 y8 y7 y6 y5 y3 y2 y0 x9 x8 x7 x6 x5 x4 x3 x2 x1 x0 h9 Z Y U R O M J I H F D A s a:fV}{W':gY}{t6 t7 t8 t26 t27 t28 t29 t30 t31 t32 t33 t34:fV}{W0:gY}{z9 a0 w9 w8 w7 w6 w5 w4 w3 w2 v9 v8 v7 v6 v5 v4 v3 v2 v1 v0 u8 u4 u0 z8 z7 z6:fV}(a3:L.size=13)(hx:Bx g W0 W')(S:fQ B g N v n p0 G SV FV b (L.setIfInBounds i true) W' t6 t7 t8 t26 t27 t28 t29 t30 t31 t32 t33 t34):
  Ki B g N v n p0 G SV FV b f0 f1 y1 y4 z5 z4 z3 z2 z1 z0 y9 y8 y7 y6 y5 y3 y2 y0 x9 x8 x7 x6 x5 x4 x3 x2 x1 x0 h9 Z Y U R O M J I H F D A s a W0 (L.setIfInBounds i true) { tmps:=#[.pointer (some ⟨g,0,none⟩),y1,f0,.pointer (some ⟨b,0,none⟩),y4,f1,t6,t7,t8,z9,a0,z5,z4,z3,z2,z1,z0,y9,y8,w9,w8,w7,w6,w5,w4,w3,t26,t27,t28,t29,t30,t31,t32,t33,t34,w2,v9,v8,v7,v6,v5,v4,v3,v2,v1,v0,u8,u4,u0,z8,z7,z6,y7,y6,y5,y3,y2,y0,x9,x8,x7,x6,x5,x4,x3,x2,x1,x0,h9,Z,Y,U,R,O,M,J,I,H,F,D,A,s,a],defers:=[] } W':=
 ⟨by simp[a3],hx,_,_,_,_,_,_,_,_,_,_,_,_,_,_,_,_,_,_,_,_,_,_,_,_,_,_,_,_,_,_,_,_,_,_,_,_,_,_,rfl,S⟩
structure eH (B g N:Nat)(v:fV)(n:Nat)(p0:Int)(G:SS->Prop)(SV FV:fV)(b:Nat)(L:Array Bool)(W:gY)(t9 t10 t37 t38 t39 t40 t41 t42 t43 t44 t45 t46 t47 t48 t49:fV):Prop where
 rd:∃p3:Int,p0<=p3/\p3<=p0+(fu (L.getD 2 false) 1+fu (L.getD 5 false) 600+fu (L.getD 8 false) 10)/\Rd B W g v n p3
 s0:L.getD 0 false=true->t38=SV
 s1:L.getD 1 false=true->t39=.pointer (some ⟨g,0,none⟩)
 s2:L.getD 2 false=true->∃k:Int,t40=.int .i64 k/\0<=k/\k<2
 s3:L.getD 3 false=true->t41=.pointer (some ⟨g,0,none⟩)
 s4:L.getD 4 false=true->t42=.pointer (some ⟨g,0,none⟩)
 s5:L.getD 5 false=true->∃l:List Rw,l.length<=10/\aM l<=9/\aZ l=true/\aD W N t43 l
 s6:L.getD 6 false=true->t44=.pointer (some ⟨b,4,none⟩)
 s7:L.getD 7 false=true->t45=FV
 s8:L.getD 8 false=true->∃l:List Rw,l.length<=10/\aM l<=9/\aZ l=true/\aD W N t46 l
 s9:L.getD 9 false=true->∃x o:fV,t47=.tuple #[x,o]/\pD G W (fun z=>N<=z/\(L.getD 13 false=true->t9≠ .pointer (some ⟨z,0,none⟩))) x o
 s10:L.getD 10 false=true->t37=t47
 s11:L.getD 11 false=true->∃x o:fV,t47=.tuple #[x,o]/\t48=x
 s12:L.getD 12 false=true->∃x o:fV,t47=.tuple #[x,o]/\t49=o
 s13:L.getD 13 false=true->∃q:Nat,t9=.pointer (some ⟨q,0,none⟩)/\N<=q
 s14:L.getD 14 false=true->∃(q:Nat)(k2 n2:Int)(e0 e1 e2 e3:fV)(o:fV),t9=.pointer (some ⟨q,0,none⟩)/\N<=q/\t47=.tuple #[sv k2 n2 e0 e1 e2 e3,o]/\Bk W q #[.int .i64 k2,.int .i64 n2,e0,e1,e2,e3] 30
 s15:L.getD 15 false=true->∃x o:fV,t47=.tuple #[x,o]/\t10=o
 c10:L.getD 10 false=true->L.getD 9 false=true
 c11:L.getD 11 false=true->L.getD 9 false=true
 c12:L.getD 12 false=true->L.getD 9 false=true
 c14:L.getD 14 false=true->L.getD 9 false=true
 c15:L.getD 15 false=true->L.getD 9 false=true
 d:L.getD 14 false=true->L.getD 13 false=true
 z:L.getD 13 false=true->L.getD 14 true=false->∃q:Nat,t9=.pointer (some ⟨q,0,none⟩)/\N<=q/\Bk W q #[.int .i64 0,.int .i64 0,.slice none 0 0,.slice none 0 0,.slice none 0 0,.slice none 0 0] 30
section
variable {B g N:Nat}{v:fV}{n:Nat}{p0:Int}{G:SS->Prop}{SV FV:fV}{b:Nat}{L:Array Bool}{W W':gY}{t9 t10 t37 t38 t39 t40 t41 t42 t43 t44 t45 t46 t47 t48 t49:fV}
theorem eH.keep (h:eH B g N v n p0 G SV FV b L W t9 t10 t37 t38 t39 t40 t41 t42 t43 t44 t45 t46 t47 t48 t49)(a:jU W.heap.size W W')(hg:g<N):eH B g N v n p0 G SV FV b L W' t9 t10 t37 t38 t39 t40 t41 t42 t43 t44 t45 t46 t47 t48 t49 where
 rd:=by obtain⟨p3,h1,h2,h3⟩:=h.rd;exact⟨p3,h1,h2,h3.aX a⟩
 s0:=h.s0
 s1:=h.s1
 s2:=h.s2
 s3:=h.s3
 s4:=h.s4
 s5:=fun e=>by have hx:Bx g W W':=Bx.aA a;exact (by obtain⟨J,I,H,F,A⟩:=h.s5 e;exact⟨J,I,H,F,oX A hx hg⟩)
 s6:=h.s6
 s7:=h.s7
 s8:=fun e=>by have hx:Bx g W W':=Bx.aA a;exact (by obtain⟨J,I,H,F,A⟩:=h.s8 e;exact⟨J,I,H,F,oX A hx hg⟩)
 s9:=fun e=>by have hx:Bx g W W':=Bx.aA a;exact (by obtain⟨x,o,s,S⟩:=h.s9 e;exact⟨x,o,s,S.move (fun z M hl=>⟨M,hx.block z hl (by have:=M.1;omega)⟩) hx.size⟩)
 s10:=h.s10
 s11:=h.s11
 s12:=h.s12
 s13:=h.s13
 s14:=fun e=>by have hx:Bx g W W':=Bx.aA a;exact (by obtain⟨q,O,n2,e0,s,D,R,o,h1,h2,h3,h4⟩:=h.s14 e;exact⟨q,O,n2,e0,s,D,R,o,h1,h2,h3,h4.aN hx (by omega)⟩)
 s15:=h.s15
 c10:=h.c10
 c11:=h.c11
 c12:=h.c12
 c14:=h.c14
 c15:=h.c15
 d:=h.d
 z:=fun s D=>by obtain⟨q,h1,h2,h3⟩:=h.z s D;exact⟨q,h1,h2,h3.keep a⟩
theorem eH.be (h:eH B g N v n p0 G SV FV b L W t9 t10 t37 t38 t39 t40 t41 t42 t43 t44 t45 t46 t47 t48 t49)(A:u=SV):eH B g N v n p0 G SV FV b (L.setIfInBounds 0 true) W t9 t10 t37 u t39 t40 t41 t42 t43 t44 t45 t46 t47 t48 t49:=by
 have D:=h;cases D;constructor
 case rd=>exact by obtain⟨p3,h1,h2,h3⟩:=h.rd;exact⟨p3,h1,by rw[fN (i:=0) (j:=2) (by decide),fN (i:=0) (j:=5) (by decide),fN (i:=0) (j:=8) (by decide)];exact h2,h3⟩
 case s0=>exact fun _=>A
 case s9=>exact fun e=>by obtain⟨x,o,F,H⟩:=h.s9 (gS e);exact⟨x,o,F,H.wk fun z a _=>⟨a.1,fun e=>a.2 (gS e)⟩⟩
 all_goals (intro e;replace e:=gS e;first|solve_by_elim|exact a9 (by solve_by_elim)|(intro s;replace s:=gT s;solve_by_elim))
theorem eH.bG (h:eH B g N v n p0 G SV FV b L W t9 t10 t37 t38 t39 t40 t41 t42 t43 t44 t45 t46 t47 t48 t49)(A:u=.pointer (some ⟨g,0,none⟩)):eH B g N v n p0 G SV FV b (L.setIfInBounds 1 true) W t9 t10 t37 t38 u t40 t41 t42 t43 t44 t45 t46 t47 t48 t49:=by
 have D:=h;cases D;constructor
 case rd=>exact by obtain⟨p3,h1,h2,h3⟩:=h.rd;exact⟨p3,h1,by rw[fN (i:=1) (j:=2) (by decide),fN (i:=1) (j:=5) (by decide),fN (i:=1) (j:=8) (by decide)];exact h2,h3⟩
 case s1=>exact fun _=>A
 case s9=>exact fun e=>by obtain⟨x,o,F,H⟩:=h.s9 (gS e);exact⟨x,o,F,H.wk fun z a _=>⟨a.1,fun e=>a.2 (gS e)⟩⟩
 all_goals (intro e;replace e:=gS e;first|solve_by_elim|exact a9 (by solve_by_elim)|(intro s;replace s:=gT s;solve_by_elim))
theorem eH.au (hg:g<N)(Z:L.size=16)(M:L.getD 2 true=false)(h:eH B g N v n p0 G SV FV b L W t9 t10 t37 t38 t39 t40 t41 t42 t43 t44 t45 t46 t47 t48 t49)(hx:Bx g W W')(h1:p0<=p3)(h2:p3<=p0+(fu (L.getD 2 false) 1+fu (L.getD 5 false) 600+fu (L.getD 8 false) 10))(h3:p3<=p4)(h4:p4<=p3+1)(hr:Rd B W' g v n p4)(R:∃k:Int,u=.int .i64 k/\0<=k/\k<2):eH B g N v n p0 G SV FV b (L.setIfInBounds 2 true) W' t9 t10 t37 t38 t39 u t41 t42 t43 t44 t45 t46 t47 t48 t49:=by
 have S:=h;cases S;constructor
 case rd=>exact⟨p4,by omega,by rw[yS (i:=2) (by omega),fN (i:=2) (j:=5) (by decide),fN (i:=2) (j:=8) (by decide)];rw[D3 M]at h2;omega,hr⟩
 case s2=>exact fun _=>R
 case s5=>exact fun e=>(by obtain⟨J,I,H,F,s⟩:=h.s5 (gS e);exact⟨J,I,H,F,oX s hx hg⟩)
 case s8=>exact fun e=>(by obtain⟨J,I,H,F,s⟩:=h.s8 (gS e);exact⟨J,I,H,F,oX s hx hg⟩)
 case s9=>exact fun e=>by obtain⟨x,o,a,Y⟩:=h.s9 (gS e);exact⟨x,o,a,Y.move (fun z A hl=>⟨⟨A.1,fun e=>A.2 (gS e)⟩,hx.block z hl (by have:=A.1;omega)⟩) hx.size⟩
 case s14=>exact fun e=>(by obtain⟨q,O,n2,e0,a,D,U,o,h1,h2,h3,h4⟩:=h.s14 (gS e);exact⟨q,O,n2,e0,a,D,U,o,h1,h2,h3,h4.aN hx (by omega)⟩)
 case z=>exact fun a D=>by obtain⟨q,h1,h2,h3⟩:=h.z (gS a) (gT D);exact⟨q,h1,h2,h3.aN hx (by omega)⟩
 all_goals (intro e;replace e:=gS e;first|solve_by_elim|exact a9 (by solve_by_elim))
theorem eH.ar (h:eH B g N v n p0 G SV FV b L W t9 t10 t37 t38 t39 t40 t41 t42 t43 t44 t45 t46 t47 t48 t49)(A:u=.pointer (some ⟨g,0,none⟩)):eH B g N v n p0 G SV FV b (L.setIfInBounds 3 true) W t9 t10 t37 t38 t39 t40 u t42 t43 t44 t45 t46 t47 t48 t49:=by
 have D:=h;cases D;constructor
 case rd=>exact by obtain⟨p3,h1,h2,h3⟩:=h.rd;exact⟨p3,h1,by rw[fN (i:=3) (j:=2) (by decide),fN (i:=3) (j:=5) (by decide),fN (i:=3) (j:=8) (by decide)];exact h2,h3⟩
 case s3=>exact fun _=>A
 case s9=>exact fun e=>by obtain⟨x,o,F,H⟩:=h.s9 (gS e);exact⟨x,o,F,H.wk fun z a _=>⟨a.1,fun e=>a.2 (gS e)⟩⟩
 all_goals (intro e;replace e:=gS e;first|solve_by_elim|exact a9 (by solve_by_elim)|(intro s;replace s:=gT s;solve_by_elim))
theorem eH.aq (h:eH B g N v n p0 G SV FV b L W t9 t10 t37 t38 t39 t40 t41 t42 t43 t44 t45 t46 t47 t48 t49)(A:u=.pointer (some ⟨g,0,none⟩)):eH B g N v n p0 G SV FV b (L.setIfInBounds 4 true) W t9 t10 t37 t38 t39 t40 t41 u t43 t44 t45 t46 t47 t48 t49:=by
 have D:=h;cases D;constructor
 case rd=>exact by obtain⟨p3,h1,h2,h3⟩:=h.rd;exact⟨p3,h1,by rw[fN (i:=4) (j:=2) (by decide),fN (i:=4) (j:=5) (by decide),fN (i:=4) (j:=8) (by decide)];exact h2,h3⟩
 case s4=>exact fun _=>A
 case s9=>exact fun e=>by obtain⟨x,o,F,H⟩:=h.s9 (gS e);exact⟨x,o,F,H.wk fun z a _=>⟨a.1,fun e=>a.2 (gS e)⟩⟩
 all_goals (intro e;replace e:=gS e;first|solve_by_elim|exact a9 (by solve_by_elim)|(intro s;replace s:=gT s;solve_by_elim))
theorem eH.ai (hg:g<N)(Z:L.size=16)(D:L.getD 5 true=false)(h:eH B g N v n p0 G SV FV b L W t9 t10 t37 t38 t39 t40 t41 t42 t43 t44 t45 t46 t47 t48 t49)(hx:Bx g W W')(h1:p0<=p3)(h2:p3<=p0+(fu (L.getD 2 false) 1+fu (L.getD 5 false) 600+fu (L.getD 8 false) 10))(h3:p3<=p4)(h4:p4<=p3+600)(hr:Rd B W' g v n p4)(I:∃l:List Rw,l.length<=10/\aM l<=9/\aZ l=true/\aD W' N u l):eH B g N v n p0 G SV FV b (L.setIfInBounds 5 true) W' t9 t10 t37 t38 t39 t40 t41 t42 u t44 t45 t46 t47 t48 t49:=by
 have J:=h;cases J;constructor
 case rd=>exact⟨p4,by omega,by rw[fN (i:=5) (j:=2) (by decide),yS (i:=5) (by omega),fN (i:=5) (j:=8) (by decide)];rw[D3 D]at h2;omega,hr⟩
 case s5=>exact fun _=>I
 case s8=>exact fun e=>(by obtain⟨Y,U,S,R,F⟩:=h.s8 (gS e);exact⟨Y,U,S,R,oX F hx hg⟩)
 case s9=>exact fun e=>by obtain⟨x,o,a,O⟩:=h.s9 (gS e);exact⟨x,o,a,O.move (fun z s hl=>⟨⟨s.1,fun e=>s.2 (gS e)⟩,hx.block z hl (by have:=s.1;omega)⟩) hx.size⟩
 case s14=>exact fun e=>(by obtain⟨q,H,n2,e0,a,A,M,o,h1,h2,h3,h4⟩:=h.s14 (gS e);exact⟨q,H,n2,e0,a,A,M,o,h1,h2,h3,h4.aN hx (by omega)⟩)
 case z=>exact fun a A=>by obtain⟨q,h1,h2,h3⟩:=h.z (gS a) (gT A);exact⟨q,h1,h2,h3.aN hx (by omega)⟩
 all_goals (intro e;replace e:=gS e;first|solve_by_elim|exact a9 (by solve_by_elim))
theorem eH.bm (h:eH B g N v n p0 G SV FV b L W t9 t10 t37 t38 t39 t40 t41 t42 t43 t44 t45 t46 t47 t48 t49)(A:u=.pointer (some ⟨b,4,none⟩)):eH B g N v n p0 G SV FV b (L.setIfInBounds 6 true) W t9 t10 t37 t38 t39 t40 t41 t42 t43 u t45 t46 t47 t48 t49:=by
 have D:=h;cases D;constructor
 case rd=>exact by obtain⟨p3,h1,h2,h3⟩:=h.rd;exact⟨p3,h1,by rw[fN (i:=6) (j:=2) (by decide),fN (i:=6) (j:=5) (by decide),fN (i:=6) (j:=8) (by decide)];exact h2,h3⟩
 case s6=>exact fun _=>A
 case s9=>exact fun e=>by obtain⟨x,o,F,H⟩:=h.s9 (gS e);exact⟨x,o,F,H.wk fun z a _=>⟨a.1,fun e=>a.2 (gS e)⟩⟩
 all_goals (intro e;replace e:=gS e;first|solve_by_elim|exact a9 (by solve_by_elim)|(intro s;replace s:=gT s;solve_by_elim))
theorem eH.bl (h:eH B g N v n p0 G SV FV b L W t9 t10 t37 t38 t39 t40 t41 t42 t43 t44 t45 t46 t47 t48 t49)(A:u=FV):eH B g N v n p0 G SV FV b (L.setIfInBounds 7 true) W t9 t10 t37 t38 t39 t40 t41 t42 t43 t44 u t46 t47 t48 t49:=by
 have D:=h;cases D;constructor
 case rd=>exact by obtain⟨p3,h1,h2,h3⟩:=h.rd;exact⟨p3,h1,by rw[fN (i:=7) (j:=2) (by decide),fN (i:=7) (j:=5) (by decide),fN (i:=7) (j:=8) (by decide)];exact h2,h3⟩
 case s7=>exact fun _=>A
 case s9=>exact fun e=>by obtain⟨x,o,F,H⟩:=h.s9 (gS e);exact⟨x,o,F,H.wk fun z a _=>⟨a.1,fun e=>a.2 (gS e)⟩⟩
 all_goals (intro e;replace e:=gS e;first|solve_by_elim|exact a9 (by solve_by_elim)|(intro s;replace s:=gT s;solve_by_elim))
theorem eH.bj (hg:g<N)(Z:L.size=16)(D:L.getD 8 true=false)(h:eH B g N v n p0 G SV FV b L W t9 t10 t37 t38 t39 t40 t41 t42 t43 t44 t45 t46 t47 t48 t49)(hx:Bx g W W')(h1:p0<=p3)(h2:p3<=p0+(fu (L.getD 2 false) 1+fu (L.getD 5 false) 600+fu (L.getD 8 false) 10))(h3:p3<=p4)(h4:p4<=p3+10)(hr:Rd B W' g v n p4)(I:∃l:List Rw,l.length<=10/\aM l<=9/\aZ l=true/\aD W' N u l):eH B g N v n p0 G SV FV b (L.setIfInBounds 8 true) W' t9 t10 t37 t38 t39 t40 t41 t42 t43 t44 t45 u t47 t48 t49:=by
 have J:=h;cases J;constructor
 case rd=>exact⟨p4,by omega,by rw[fN (i:=8) (j:=2) (by decide),fN (i:=8) (j:=5) (by decide),yS (i:=8) (by omega)];rw[D3 D]at h2;omega,hr⟩
 case s5=>exact fun e=>(by obtain⟨Y,U,S,R,F⟩:=h.s5 (gS e);exact⟨Y,U,S,R,oX F hx hg⟩)
 case s8=>exact fun _=>I
 case s9=>exact fun e=>by obtain⟨x,o,a,O⟩:=h.s9 (gS e);exact⟨x,o,a,O.move (fun z s hl=>⟨⟨s.1,fun e=>s.2 (gS e)⟩,hx.block z hl (by have:=s.1;omega)⟩) hx.size⟩
 case s14=>exact fun e=>(by obtain⟨q,H,n2,e0,a,A,M,o,h1,h2,h3,h4⟩:=h.s14 (gS e);exact⟨q,H,n2,e0,a,A,M,o,h1,h2,h3,h4.aN hx (by omega)⟩)
 case z=>exact fun a A=>by obtain⟨q,h1,h2,h3⟩:=h.z (gS a) (gT A);exact⟨q,h1,h2,h3.aN hx (by omega)⟩
 all_goals (intro e;replace e:=gS e;first|solve_by_elim|exact a9 (by solve_by_elim))
theorem eH.cE (a:L.getD 9 false=true->False)(h:eH B g N v n p0 G SV FV b L W t9 t10 t37 t38 t39 t40 t41 t42 t43 t44 t45 t46 t47 t48 t49)(D:∃x o:fV,u=.tuple #[x,o]/\pD G W (fun z=>N<=z/\(L.getD 13 false=true->t9≠ .pointer (some ⟨z,0,none⟩))) x o):eH B g N v n p0 G SV FV b (L.setIfInBounds 9 true) W t9 t10 t37 t38 t39 t40 t41 t42 t43 t44 t45 t46 u t48 t49:=by
 have F:=h;cases F;constructor
 case rd=>exact by obtain⟨p3,h1,h2,h3⟩:=h.rd;exact⟨p3,h1,by rw[fN (i:=9) (j:=2) (by decide),fN (i:=9) (j:=5) (by decide),fN (i:=9) (j:=8) (by decide)];exact h2,h3⟩
 case s9=>exact fun _=>by obtain⟨x,o,H,I⟩:=D;exact⟨x,o,H,I.wk fun z s _=>⟨s.1,fun e=>s.2 (gS e)⟩⟩
 case s10=>exact fun e=>(a (h.c10 (gS e))).elim
 case s11=>exact fun e=>(a (h.c11 (gS e))).elim
 case s12=>exact fun e=>(a (h.c12 (gS e))).elim
 case s14=>exact fun e=>(a (h.c14 (gS e))).elim
 case s15=>exact fun e=>(a (h.c15 (gS e))).elim
 all_goals (intro e;replace e:=gS e;first|solve_by_elim|exact a9 (by solve_by_elim)|(intro A;replace A:=gT A;solve_by_elim))
theorem eH.bC (hl:L.getD 9 false=true)(h:eH B g N v n p0 G SV FV b L W t9 t10 t37 t38 t39 t40 t41 t42 t43 t44 t45 t46 t47 t48 t49)(A:u=t47):eH B g N v n p0 G SV FV b (L.setIfInBounds 10 true) W t9 t10 u t38 t39 t40 t41 t42 t43 t44 t45 t46 t47 t48 t49:=by
 have D:=h;cases D;constructor
 case rd=>exact by obtain⟨p3,h1,h2,h3⟩:=h.rd;exact⟨p3,h1,by rw[fN (i:=10) (j:=2) (by decide),fN (i:=10) (j:=5) (by decide),fN (i:=10) (j:=8) (by decide)];exact h2,h3⟩
 case s10=>exact fun _=>A
 case s9=>exact fun e=>by obtain⟨x,o,F,H⟩:=h.s9 (gS e);exact⟨x,o,F,H.wk fun z a _=>⟨a.1,fun e=>a.2 (gS e)⟩⟩
 case c10=>exact fun e=>a9 (hl)
 all_goals (intro e;replace e:=gS e;first|solve_by_elim|exact a9 (by solve_by_elim)|(intro s;replace s:=gT s;solve_by_elim))
theorem eH.az (hl:L.getD 9 false=true)(h:eH B g N v n p0 G SV FV b L W t9 t10 t37 t38 t39 t40 t41 t42 t43 t44 t45 t46 t47 t48 t49)(A:∃x o:fV,t47=.tuple #[x,o]/\u=x):eH B g N v n p0 G SV FV b (L.setIfInBounds 11 true) W t9 t10 t37 t38 t39 t40 t41 t42 t43 t44 t45 t46 t47 u t49:=by
 have D:=h;cases D;constructor
 case rd=>exact by obtain⟨p3,h1,h2,h3⟩:=h.rd;exact⟨p3,h1,by rw[fN (i:=11) (j:=2) (by decide),fN (i:=11) (j:=5) (by decide),fN (i:=11) (j:=8) (by decide)];exact h2,h3⟩
 case s11=>exact fun _=>A
 case s9=>exact fun e=>by obtain⟨x,o,F,H⟩:=h.s9 (gS e);exact⟨x,o,F,H.wk fun z a _=>⟨a.1,fun e=>a.2 (gS e)⟩⟩
 case c11=>exact fun e=>a9 (hl)
 all_goals (intro e;replace e:=gS e;first|solve_by_elim|exact a9 (by solve_by_elim)|(intro s;replace s:=gT s;solve_by_elim))
theorem eH.aw (hl:L.getD 9 false=true)(h:eH B g N v n p0 G SV FV b L W t9 t10 t37 t38 t39 t40 t41 t42 t43 t44 t45 t46 t47 t48 t49)(A:∃x o:fV,t47=.tuple #[x,o]/\u=o):eH B g N v n p0 G SV FV b (L.setIfInBounds 12 true) W t9 t10 t37 t38 t39 t40 t41 t42 t43 t44 t45 t46 t47 t48 u:=by
 have D:=h;cases D;constructor
 case rd=>exact by obtain⟨p3,h1,h2,h3⟩:=h.rd;exact⟨p3,h1,by rw[fN (i:=12) (j:=2) (by decide),fN (i:=12) (j:=5) (by decide),fN (i:=12) (j:=8) (by decide)];exact h2,h3⟩
 case s12=>exact fun _=>A
 case s9=>exact fun e=>by obtain⟨x,o,F,H⟩:=h.s9 (gS e);exact⟨x,o,F,H.wk fun z a _=>⟨a.1,fun e=>a.2 (gS e)⟩⟩
 case c12=>exact fun e=>a9 (hl)
 all_goals (intro e;replace e:=gS e;first|solve_by_elim|exact a9 (by solve_by_elim)|(intro s;replace s:=gT s;solve_by_elim))
theorem eH.bu (J:L.size=16)(s:L.getD 13 true=false)(h0:eH B g N v n p0 G SV FV b L W t9 t10 t37 t38 t39 t40 t41 t42 t43 t44 t45 t46 t47 t48 t49)(D:N<=W.heap.size)(hg:g<N)(a:jU W.heap.size W W')(A:Bk W' W.heap.size #[.int .i64 0,.int .i64 0,.slice none 0 0,.slice none 0 0,.slice none 0 0,.slice none 0 0] 30):eH B g N v n p0 G SV FV b (L.setIfInBounds 13 true) W' (.pointer (some ⟨W.heap.size,0,none⟩)) t10 t37 t38 t39 t40 t41 t42 t43 t44 t45 t46 t47 t48 t49:=by
 have h:=h0.keep a hg;exact {
  rd:=by obtain⟨p3,h1,h2,h3⟩:=h.rd;exact⟨p3,h1,by rw[fN (i:=13) (j:=2) (by decide),fN (i:=13) (j:=5) (by decide),fN (i:=13) (j:=8) (by decide)];exact h2,h3⟩,
  s0:=fun e=>h.s0 (gS e),
  s1:=fun e=>h.s1 (gS e),
  s2:=fun e=>h.s2 (gS e),
  s3:=fun e=>h.s3 (gS e),
  s4:=fun e=>h.s4 (gS e),
  s5:=fun e=>h.s5 (gS e),
  s6:=fun e=>h.s6 (gS e),
  s7:=fun e=>h.s7 (gS e),
  s8:=fun e=>h.s8 (gS e),
  s9:=fun e=>by obtain⟨x,o,H,I⟩:=h0.s9 (gS e);exact⟨x,o,H,I.move (fun z F hl=>⟨⟨F.1,fun _ e=>by have:=congrArg Addr.block (E0 (fV.pointer.inj e));simp at this;omega⟩,a.block z hl⟩) a.size⟩,
  s10:=fun e=>h.s10 (gS e),
  s11:=fun e=>h.s11 (gS e),
  s12:=fun e=>h.s12 (gS e),
  s13:=fun _=>⟨_,rfl,D⟩,
  s14:=fun e=>(gN (h.d (gS e)) s).elim,
  s15:=fun e=>h.s15 (gS e),
  c10:=fun e=>a9 (h.c10 (gS e)),
  c11:=fun e=>a9 (h.c11 (gS e)),
  c12:=fun e=>a9 (h.c12 (gS e)),
  c14:=fun e=>a9 (h.c14 (gS e)),
  c15:=fun e=>a9 (h.c15 (gS e)),
  d:=fun _=>gH (by omega),
  z:=fun _ _=>⟨_,rfl,D,A⟩ }
theorem eH.cG {q:Nat}{F n2:Int}{e0 D A I:fV}(x2:L.size=16)(hl:L.getD 9 false=true)(s:L.getD 13 false=true)(h:eH B g N v n p0 G SV FV b L W t9 t10 t37 t38 t39 t40 t41 t42 t43 t44 t45 t46 t47 t48 t49)(U:t9=.pointer (some ⟨q,0,none⟩))(Z:N<=q)(ea:t47=.tuple #[sv F n2 e0 D A I,o])(hq:Bk W q #[.int .i64 0,.int .i64 0,.slice none 0 0,.slice none 0 0,.slice none 0 0,.slice none 0 0] 30)(hx:∀x,x≠q->W'.heap[x]?=W.heap[x]?)(S:W'.heap.size=W.heap.size)(hr:∀p3,Rd B W g v n p3->Rd B W' g v n p3)(Y:Bk W' q #[.int .i64 F,.int .i64 n2,e0,D,A,I] 30):eH B g N v n p0 G SV FV b (L.setIfInBounds 14 true) W' t9 t10 t37 t38 t39 t40 t41 t42 t43 t44 t45 t46 t47 t48 t49:=by
 have h':=h;cases h';constructor
 case rd=>exact by obtain⟨p3,h1,h2,h3⟩:=h.rd;exact⟨p3,h1,by rw[fN (i:=14) (j:=2) (by decide),fN (i:=14) (j:=5) (by decide),fN (i:=14) (j:=8) (by decide)];exact h2,hr p3 h3⟩
 case s5=>exact fun e=>(by obtain⟨R,O,M,J,a⟩:=h.s5 (gS e);exact⟨R,O,M,J,dF a fun z e=>hx z (by obtain⟨d,hd⟩:=gP a e;exact bK hd hq (by decide))⟩)
 case s8=>exact fun e=>(by obtain⟨R,O,M,J,a⟩:=h.s8 (gS e);exact⟨R,O,M,J,dF a fun z e=>hx z (by obtain⟨d,hd⟩:=gP a e;exact bK hd hq (by decide))⟩)
 case s9=>exact fun e=>(by obtain⟨x,o,D,an⟩:=h.s9 (gS e);exact⟨x,o,D,an.move (fun z H hl=>⟨⟨H.1,fun _=>H.2 s⟩,hx z fun e=>H.2 s (by rw[U,e])⟩) (AT S.symm)⟩)
 case s14=>exact fun _=>⟨q,F,n2,e0,D,A,I,o,U,Z,ea,Y⟩
 case c14=>exact fun e=>a9 (hl)
 case d=>exact fun _=>a9 s
 case z=>exact fun _ A=>absurd A (by rw[gH (by omega)];decide)
 all_goals (intro e;replace e:=gS e;first|solve_by_elim|exact a9 (by solve_by_elim))
theorem eH.cQ (hl:L.getD 9 false=true)(h:eH B g N v n p0 G SV FV b L W t9 t10 t37 t38 t39 t40 t41 t42 t43 t44 t45 t46 t47 t48 t49)(A:∃x o:fV,t47=.tuple #[x,o]/\u=o):eH B g N v n p0 G SV FV b (L.setIfInBounds 15 true) W t9 u t37 t38 t39 t40 t41 t42 t43 t44 t45 t46 t47 t48 t49:=by
 have D:=h;cases D;constructor
 case rd=>exact by obtain⟨p3,h1,h2,h3⟩:=h.rd;exact⟨p3,h1,by rw[fN (i:=15) (j:=2) (by decide),fN (i:=15) (j:=5) (by decide),fN (i:=15) (j:=8) (by decide)];exact h2,h3⟩
 case s15=>exact fun _=>A
 case s9=>exact fun e=>by obtain⟨x,o,F,H⟩:=h.s9 (gS e);exact⟨x,o,F,H.wk fun z a _=>⟨a.1,fun e=>a.2 (gS e)⟩⟩
 case c15=>exact fun e=>a9 (hl)
 all_goals (intro e;replace e:=gS e;first|solve_by_elim|exact a9 (by solve_by_elim)|(intro s;replace s:=gT s;solve_by_elim))
theorem eH.fin (h:eH B g N v n p0 G SV FV b L W t9 t10 t37 t38 t39 t40 t41 t42 t43 t44 t45 t46 t47 t48 t49)(a:∀j,j<16->L.getD j false=true):OK B g N v n p0 (611) G W t9 t10:=by
 obtain⟨p3,h1,h2,h3⟩:=h.rd;rw[a 2 (by omega),a 5 (by omega),a 8 (by omega)]at h2;obtain⟨x,o,M,Y⟩:=h.s9 (a 9 (by omega));obtain⟨q,H,n2,e0,S,R,O,o',F,I,A,U⟩:=h.s14 (a 14 (by omega));obtain⟨Z,o2,s,J⟩:=h.s15 (a 15 (by omega));rw[M]at A s;simp only[fV.tuple.injEq,sI.injEq,oO.injEq,and_true]at A s;obtain⟨rfl,rfl⟩:=A;obtain⟨rfl,rfl⟩:=s;exact⟨q,H,n2,e0,S,R,O,p3,F,I,U,by rw[J];exact Y.wk fun z D _=>⟨D.1,fun e=>D.2 (a 13 (by omega)) (by rw[F,e])⟩,h1,by simp only[fu]at h2;omega,h3⟩
end
def K4 (B g N:Nat)(v:fV)(n:Nat)(p0:Int)(G:SS->Prop)(SV FV:fV)(b:Nat)(f0 f1 y1 y4 y11 y12 y13 y14 y15 y16 y17 y18 y52 y53 y54 y55 y56 y57 y58 y59 y60 y61 y62 y63 y64 y65 y66 y67 y68 y69 y70 y71 y72 y73 y74 y75 y76 y77 y78 y79 y80 y81 y82:fV)(W0:gY)(L:Array Bool)(a:Act)(W:gY):Prop:=
 L.size=16/\Bx g W0 W/\∃z6 z7 z8 z19 z20 z21 z22 z23 z24 z25 z26 z27 z28 z29 z30 z31 z32 z33 z34 z35 z36 z50 z51 t9 t10 t37 t38 t39 t40 t41 t42 t43 t44 t45 t46 t47 t48 t49:fV,
  a={ tmps:=#[.pointer (some ⟨g,0,none⟩),y1,f0,.pointer (some ⟨b,0,none⟩),y4,f1,z6,z7,z8,t9,t10,y11,y12,y13,y14,y15,y16,y17,y18,z19,z20,z21,z22,z23,z24,z25,z26,z27,z28,z29,z30,z31,z32,z33,z34,z35,z36,t37,t38,t39,t40,t41,t42,t43,t44,t45,t46,t47,t48,t49,z50,z51,y52,y53,y54,y55,y56,y57,y58,y59,y60,y61,y62,y63,y64,y65,y66,y67,y68,y69,y70,y71,y72,y73,y74,y75,y76,y77,y78,y79,y80,y81,y82],defers:=[] }/\eH B g N v n p0 G SV FV b L W t9 t10 t37 t38 t39 t40 t41 t42 t43 t44 t45 t46 t47 t48 t49
theorem f9 {N:Nat}{p0:Int}{G:SS->Prop}{SV FV:fV}{b:Nat}{f0 f1 y1 y4 z5 z4 z3 z2 z1 z0 y9 y8 y7 y6 y5 y3 y2 y0 x9 x8 x7 x6 x5 x4 x3 x2 x1 x0 h9 Z Y U R O M J I H F D A s a:fV}{W':gY}{t9 t10 t37 t38 t39 t40 t41 t42 t43 t44 t45 t46 t47 t48 t49:fV}{W0:gY}{z6 z7 z8 w7 w6 w5 w4 w3 w2 v9 v8 v7 v6 v5 v4 v3 v2 v1 v0 u8 u4 u0 z9:fV}(a0:L.size=16)(hx:Bx g W0 W')(S:eH B g N v n p0 G SV FV b (L.setIfInBounds i true) W' t9 t10 t37 t38 t39 t40 t41 t42 t43 t44 t45 t46 t47 t48 t49):
  K4 B g N v n p0 G SV FV b f0 f1 y1 y4 z5 z4 z3 z2 z1 z0 y9 y8 y7 y6 y5 y3 y2 y0 x9 x8 x7 x6 x5 x4 x3 x2 x1 x0 h9 Z Y U R O M J I H F D A s a W0 (L.setIfInBounds i true) { tmps:=#[.pointer (some ⟨g,0,none⟩),y1,f0,.pointer (some ⟨b,0,none⟩),y4,f1,z6,z7,z8,t9,t10,z5,z4,z3,z2,z1,z0,y9,y8,w7,w6,w5,w4,w3,w2,v9,v8,v7,v6,v5,v4,v3,v2,v1,v0,u8,u4,t37,t38,t39,t40,t41,t42,t43,t44,t45,t46,t47,t48,t49,u0,z9,y7,y6,y5,y3,y2,y0,x9,x8,x7,x6,x5,x4,x3,x2,x1,x0,h9,Z,Y,U,R,O,M,J,I,H,F,D,A,s,a],defers:=[] } W':=
 ⟨by simp[a0],hx,_,_,_,_,_,_,_,_,_,_,_,_,_,_,_,_,_,_,_,_,_,_,_,_,_,_,_,_,_,_,_,_,_,_,_,_,_,_,rfl,S⟩
attribute [local go_sem ↓] Go.wp_at_zero Go.wp_at_succ
structure sJ (c:Int)(s:SS):Prop where
 sm:s.t.sm
 pok:d7 s.t 3=true
 two:s.K.length=2
 abs:∀l∈s.K,aM l<=c
 few:s.f.length<=8
 dl:s.d.length<=400
theorem BD {t:PT}{s:fV}(A:t.sm)(hp:d7 t 3=true)(hs:cZ B w t s):
  iC rN 38 #[pl t.k t.n s] w fun e a=>∃(s':SS)(sp si sf sd:fV),e=.returned (.tuple #[sv s'.t.k s'.t.n sp si sf sd,.bool true])/\sJ 0 s'/\fF a (fun z=>w.heap.size+2<=z) sp si sf sd s'/\jU w.heap.size w a:=by
 refine (B0 (LR hp) hs).mono ?_;rintro e w1 ⟨sp,si,sf,rfl,F,D⟩;exact⟨qC t,sp,si,sf,bM,rfl,⟨A,hp,rfl,fun l hl=>by simp[qC]at hl;subst hl;simp[aM],by simp[qC],by simp[qC]⟩,F,D⟩
theorem BJ {s:SS}{f:LI}{F:fV}(hd:sJ c s)(h:bY w sp si sf sd s)(hf:Ts w F f)(hl:f.length<=1000):
  iC rN 23 #[sv s.t.k s.t.n sp si sf sd,F] w fun e D=>∃x m o:fV,e=.returned (.tuple #[x,m,o])/\pD (sJ c) D (fun z=>w.heap.size+2<=z) x o/\jU w.heap.size w D:=by
 rcases hn:pX s f with _|⟨s',m⟩
 ·refine (wG hn h hf).mono ?_;rintro e w1 ⟨sp,si,sf,sd,H,rfl,A,I,a⟩;exact⟨_,_,_,rfl,⟨zeroS,sp,si,sf,sd,false,rfl,rfl,(fun e=>by cases e),A⟩,a⟩
 ·obtain⟨r,h1,h2,h3,rfl,rfl⟩:=mX.1 hn;refine (uI h1 h2 h3 hl h hf).mono ?_;rintro e w1 ⟨sp,si,sf,sd,H,rfl,A,I,a⟩;exact⟨_,_,_,rfl,⟨⟨s.t,s.K,f,aJ f r⟩,sp,si,sf,sd,true,rfl,rfl,fun _=>⟨hd.sm,hd.pok,hd.two,hd.abs,lB h2,wR (kD f r) (k7 (dS.1 h1).2.1)⟩,A⟩,a⟩
theorem K5 {K:List (List Rw)}{l:List Rw}{d:Int}(a:∀x∈K,aM x<=c)(s:0<=c)(hl:aM l<=d)(hd:0<=d):∀x∈jS K i l,aM x<=c+d:=by
 intro x hx;unfold jS at hx
 rcases List.mem_or_eq_of_mem_set hx with h|h
 ·have:=a x h;omega
 ·subst h;have h1:=Ec (K.getD i []++l);rw[gJ]at h1;have h2:aM (K.getD i [])<=c:=by
   rw[mF]
   rcases hq:K[i]? with _|y
   ·simp[aM];exact s
   ·exact a y (kR hq)
  omega
theorem Bf {s:SS}{l:List Rw}{F:fV}(i:Int)(H:0<=c)(hd:sJ c s)(h:bY w sp si sf sd s)(hl:Rs w F l)(ha:aM l<=9):
  iC rN 125 #[sv s.t.k s.t.n sp si sf sd,.int .i64 i,F] w fun e D=>∃x o:fV,e=.returned (.tuple #[x,o])/\pD (sJ (c+9)) D (fun z=>w.heap.size+2<=z) x o/\jU w.heap.size w D:=by
 refine (Bd i h hl).mono ?_;rintro e w1 (⟨s',hs',sp,si,sf,sd,rfl,A,a⟩|⟨hn,sp,si,sf,sd,rfl,A,a⟩)
 ·have I:s'=⟨s.t,jS s.K i.toNat l,s.f,s.d⟩:=by
   unfold rU at hs'
   split at hs'
   ·dsimp only at hs'
    split at hs'
    ·exact (E0 hs').symm
    ·cases hs'
   ·cases hs'
  subst I;exact⟨_,_,rfl,⟨⟨s.t,jS s.K i.toNat l,s.f,s.d⟩,sp,si,sf,sd,true,rfl,rfl,fun _=>⟨hd.sm,hd.pok,by simpa[jS]using hd.two,K5 hd.abs H ha (by decide),hd.few,hd.dl⟩,A⟩,a⟩
 ·exact⟨_,_,rfl,⟨zeroS,sp,si,sf,sd,false,rfl,rfl,(fun e=>by cases e),A⟩,a⟩
theorem xP {m:Int}{f:LI}(h:Rd B w g v n p)(hp:0<=p)(v3:p<=700000)(hf:∀V,Bx g w V->Ts V sf f)(y9:∃a i c,sp=.slice a i c)(z0:∃a i c,si=.slice a i c)(z1:∃a i c,sd=.slice a i c):
  iC rN 75 #[.pointer (some ⟨g,0,none⟩),sv k m sp si sf sd] w fun e w'=>∃(o:fV)(f':LI),e=.returned o/\f'.length<=1000/\aW w' w.heap.size o f'/\(∃p':Int,p<=p'/\p'<=p+500/\Rd B w' g v n p')/\Bx g w w':=by
 obtain⟨R,i0,I,rfl⟩:=y9;obtain⟨O,H,c1,rfl⟩:=z0;obtain⟨J,F,c3,rfl⟩:=z1;have HF:Hid (∀V,Bx g w V->Ts V sf f):=hf;obtain⟨M,c2,rfl,-⟩:=hf w (Bx.refl _ _);have hg:=h.blk.lt;have bA:Bk (w.alloc (.cells (sc k m (.slice R i0 I) (.slice O H c1) (.slice M f.length c2) (.slice J F c3)) 30)) w.heap.size (sc k m (.slice R i0 I) (.slice O H c1) (.slice M f.length c2) (.slice J F c3)) 30:=Bk.new _ _ rfl;have x6:Bx g w (w.alloc (.cells (sc k m (.slice R i0 I) (.slice O H c1) (.slice M f.length c2) (.slice J F c3)) 30)):=(Bx.refl _ _).alloc _;have h0:=h.aX (aG (fH _ _) (.cells (sc k m (.slice R i0 I) (.slice O H c1) (.slice M f.length c2) (.slice J F c3)) 30));have y8:w.heap.size<=(w.alloc (.cells (sc k m (.slice R i0 I) (.slice O H c1) (.slice M f.length c2) (.slice J F c3)) 30)).heap.size:=by simp
 clear h hf;go_enter Tryz.func75,Tryz.ntmps75;go_wp2_with fail;generalize (w.alloc (.cells (sc k m (.slice R i0 I) (.slice O H c1) (.slice M f.length c2) (.slice J F c3)) 30))=W0 at*;refine (xB h0 hp (by omega)).mono ?_;rintro e w1 ⟨o1,f1,rfl,v8,U,⟨p1,v2,v1,x8⟩,Y⟩;have y0:=bA.aN Y (by omega);have Z:=x6.trans Y;have A:aW w1 w.heap.size o1 f1:=bQ U y8;clear U bA x6 Y h0;go_wp2_with fail;refine (pA x8 (by omega) (by omega) _ (by omega) (by omega)).mono ?_;rintro e w2 ⟨j,rfl,v7,v6,x7,D⟩;have z5:=y0.aN D (by omega);have s:=Z.trans D;have S:aW w2 w.heap.size o1 f1:=oX A D (by omega);have y7:=s.size;clear x8 y0 Z A D
 by_cases hj:j=0
 ·subst hj;go_wp2_with fail;go_ret;exact⟨_,f1,rfl,by omega,S,⟨p1+1,by omega,by omega,x7⟩,s⟩
 ·have v5:(j==0)=false:=by simpa using hj
  obtain⟨x0,x1,x2,x3,x4,x5⟩:=z5.aY;go_wp2_with fail;refine (DS _ _ f f1 _ (HF.out _ s) (aW.ts S (by omega))).mono ?_;rintro e w3 ⟨o3,rfl,y3,x9⟩;have y4:=s.trans (Bx.aA x9);have z2:=x7.aX x9;have v4:=lB (AO f f1);clear x0 x1 x2 x3 x4 x5;go_wp2_with fail;go_ret;exact⟨_,_,rfl,by omega,bQ y3 y7,⟨p1+1,by omega,by omega,z2⟩,y4⟩
end Go.Proofs.YtbdpcngcbnoioaaGreatDoor
