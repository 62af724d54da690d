import Derived.Test.YtbdpcngcbnoioaaGreatDoorGtX
import Derived.Laws.EntriesVeiled
set_option maxRecDepth 100000
set_option maxHeartbeats 8000000
namespace Go.Proofs.YtbdpcngcbnoioaaGreatDoor
open Go.RowKit
open Go.Proofs.Tryz renaming prog->fM,underlying126->fQ,ntmps144->gD,func144->gM,results171->gQ,ntmps171->gX,func171->iM,results228->iP,ntmps228->jB,func228->jO
open Go renaming bodyPost_ret->mO,World->nA,Calls->nB,IntKind->nT,Value->nX
open Go.RowKit renaming Below->oU,run_makeMap->oW
open Go.RowKit.Below renaming refl->pU
open _root_.List renaming mem_of_getElem?->qV,take_length->sD,filter_append->tJ,map_append->tK
open Go.IntKind renaming wrap_i64->tL,i64->tM
open Go.World renaming alloc->tN
open _root_.Bool renaming eq_iff_iff->xU
open Go.Instr renaming entryStore->xV
open _root_.Nat renaming le_refl->AP
variable {d how:Int}
theorem sK {a b c:Int}{x y:Bool}(h1:a=c)(h2:b=d)(h3:x=y):Ending.returned (.tuple #[.agg #[.int .i64 a,.int .i64 b],.bool x])=.returned (.tuple #[.agg #[.int .i64 c,.int .i64 d],.bool y]):=by rw[h1,h2,h3]
abbrev pQ (K V:Int):Obj:= .cells #[.int .i64 K,.int .i64 V] 131
theorem tH (K V:Int)(w:nA):Bk ((w.alloc (pQ K V)).alloc (pQ 0 0)) w.heap.size #[.int .i64 K,.int .i64 V] 131/\Bk ((w.alloc (pQ K V)).alloc (pQ 0 0)) (w.heap.size+1) #[.int .i64 0,.int .i64 0] 131/\oU w.heap.size w ((w.alloc (pQ K V)).alloc (pQ 0 0)):=
 ⟨(Bk.new _ _ rfl).alloc _,Bk.new _ _ (by simp),aH (aH (pU _ _) _) _⟩
theorem GB (K V:Int)(w:nA)(B:0<=K)(A:K<=3)(s:0<=V)(g:V<=99):
  nB fM 215 #[.agg #[.int .i64 K,.int .i64 V]] w fun e D=>e=.returned (.tuple #[.agg #[.int .i64 (bC 1 (K,V)).1,.int .i64 (bC 1 (K,V)).2],.bool (cR 1 (K,V))])/\oU w.heap.size w D:=by
 have _u:(0<=K/\K<=3)/\(0<=V/\V<=99):=⟨⟨B,A⟩,⟨s,g⟩⟩;obtain⟨H,a,G⟩:=tH K V w;obtain⟨i0,O,_,_⟩:=H.two;obtain⟨L,J,R,Q⟩:=a.two;have M:w.heap.size≠w.heap.size+1:=by omega
 go_enter Tryz.func215,Tryz.ntmps215
 go_upto_region 1 with fail
 generalize ((w.alloc (pQ K V)).alloc (pQ 0 0))=I at*;go_wp2_with fail;refine mO (by simp[results,Tryz.results215,go_sem,lL a,lM a];try rfl) rfl ?_;refine⟨sK ?_ ?_ ?_,(G.setCell (by simp) _).setCell (by simp) _⟩
 all_goals simp only[bC,cR]
 all_goals (simp<;>omega)
theorem GC (K V:Int)(w:nA)(O:0<=K)(M:K<=3)(L:0<=V)(J:V<=99):
  nB fM 216 #[.agg #[.int .i64 K,.int .i64 V]] w fun e w'=>e=.returned (.tuple #[.agg #[.int .i64 (bC 2 (K,V)).1,.int .i64 (bC 2 (K,V)).2],.bool (cR 2 (K,V))])/\oU w.heap.size w w':=by
 have _u:(0<=K/\K<=3)/\(0<=V/\V<=99):=⟨⟨O,M⟩,⟨L,J⟩⟩;obtain⟨D,Z,S⟩:=tH K V w;obtain⟨i0,I,_,_⟩:=D.two;obtain⟨H,G,Y,U⟩:=Z.two;have ne:w.heap.size≠w.heap.size+1:=by omega
 go_enter Tryz.func216,Tryz.ntmps216
 go_upto_region 1 with fail
 generalize ((w.alloc (pQ K V)).alloc (pQ 0 0))=g at*;have iw:tM.wrap (V+1)=V+1:=by rw[tL];omega
 have A:Hid (∀W,oU g.heap.size g W->W.cell? ⟨w.heap.size,0,none⟩=some (.int .i64 K)/\W.cell? ⟨w.heap.size,1,none⟩=some (.int .i64 V)):=fun W T=>⟨(D.keep T).two.1,(D.keep T).two.2.1⟩;have s:oU g.heap.size g g.drew:=(pU _ _).drew;clear i0 I H G Y U;obtain⟨i0,I⟩:=A.out _ s
 go_region_held3 (fun W=>W.cell? ⟨w.heap.size,0,none⟩=some (.int .i64 K)/\W.cell? ⟨w.heap.size,1,none⟩=some (.int .i64 V))
  (first|exact A.out _ s|exact A.out _ a|exact⟨lX (lX (A.out _ a).1 (by simp)) (by simp),lX (lX (A.out _ a).2 (by simp)) (by simp)⟩)
  (first
   | (go_at_call 235;refine (pT (V+1) _).mono ?_;rintro e wa ⟨rfl,R⟩;have a:=aG s R;have B:=Z.keep a;obtain⟨H,G,Y,U⟩:=B.two))
 have bo:=B.ai (.int .i64 K) (.int .i64 ((V+1)%100));have Q:oU w.heap.size w ((wa.setCell ⟨w.heap.size+1,0,none⟩ (.int .i64 K)).setCell ⟨w.heap.size+1,1,none⟩ (.int .i64 ((V+1)%100))):=((S.trans (a.mono S.size)).setCell (by simp) _).setCell (by simp) _;obtain⟨y0,y1,_,_⟩:=bo.two;go_wp2_with fail;refine mO (v:= .tuple #[.agg #[.int .i64 K,.int .i64 ((V+1)%100)],.bool true]) (by simp[results,Tryz.results216,go_sem,y0,y1]) rfl ?_;exact⟨rfl,Q⟩
theorem GD (K V:Int)(w:nA)(B:0<=K)(A:K<=3)(s:0<=V)(g:V<=99):
  nB fM 217 #[.agg #[.int .i64 K,.int .i64 V]] w fun e D=>e=.returned (.tuple #[.agg #[.int .i64 (bC 3 (K,V)).1,.int .i64 (bC 3 (K,V)).2],.bool (cR 3 (K,V))])/\oU w.heap.size w D:=by
 have _u:(0<=K/\K<=3)/\(0<=V/\V<=99):=⟨⟨B,A⟩,⟨s,g⟩⟩;obtain⟨H,a,G⟩:=tH K V w;obtain⟨i0,O,_,_⟩:=H.two;obtain⟨L,J,R,Q⟩:=a.two;have M:w.heap.size≠w.heap.size+1:=by omega
 go_enter Tryz.func217,Tryz.ntmps217
 go_upto_region 1 with fail
 generalize ((w.alloc (pQ K V)).alloc (pQ 0 0))=I at*;go_wp2_with fail;refine mO (by simp[results,Tryz.results217,go_sem,lL a,lM a];try rfl) rfl ?_;refine⟨sK ?_ ?_ ?_,(G.setCell (by simp) _).setCell (by simp) _⟩
 all_goals simp only[bC,cR]
 all_goals (simp<;>omega)
theorem GF (K V:Int)(w:nA)(B:0<=K)(A:K<=3)(s:0<=V)(g:V<=99):
  nB fM 218 #[.agg #[.int .i64 K,.int .i64 V]] w fun e D=>e=.returned (.tuple #[.agg #[.int .i64 (bC 4 (K,V)).1,.int .i64 (bC 4 (K,V)).2],.bool (cR 4 (K,V))])/\oU w.heap.size w D:=by
 have _u:(0<=K/\K<=3)/\(0<=V/\V<=99):=⟨⟨B,A⟩,⟨s,g⟩⟩;obtain⟨H,a,G⟩:=tH K V w;obtain⟨i0,O,_,_⟩:=H.two;obtain⟨L,J,R,Q⟩:=a.two;have M:w.heap.size≠w.heap.size+1:=by omega
 go_enter Tryz.func218,Tryz.ntmps218
 go_upto_region 1 with fail
 generalize ((w.alloc (pQ K V)).alloc (pQ 0 0))=I at*;go_wp2_with fail;refine mO (by simp[results,Tryz.results218,go_sem,lL a,lM a];try rfl) rfl ?_;refine⟨sK ?_ ?_ ?_,(G.setCell (by simp) _).setCell (by simp) _⟩
 all_goals simp only[bC,cR]
 all_goals (simp<;>omega)
theorem GG (K V:Int)(w:nA)(A:0<=K)(s:K<=3)(g:0<=V)(a:V<=99):
  nB fM 219 #[.agg #[.int .i64 K,.int .i64 V]] w fun e J=>e=.returned (.tuple #[.agg #[.int .i64 (bC 5 (K,V)).1,.int .i64 (bC 5 (K,V)).2],.bool (cR 5 (K,V))])/\oU w.heap.size w J:=by
 have _u:(0<=K/\K<=3)/\(0<=V/\V<=99):=⟨⟨A,s⟩,⟨g,a⟩⟩;obtain⟨O,D,L⟩:=tH K V w;obtain⟨i0,T,_,_⟩:=O.two;obtain⟨R,Q,Y,U⟩:=D.two;have S:w.heap.size≠w.heap.size+1:=by omega
 go_enter Tryz.func219,Tryz.ntmps219
 go_upto_region 1 with fail
 generalize ((w.alloc (pQ K V)).alloc (pQ 0 0))=I at*
 go_region
 have M:=(D.ai (.int .i64 K) (.int .i64 V)).drew;have B:oU w.heap.size w ((I.setCell ⟨w.heap.size+1,0,none⟩ (.int .i64 K)).setCell ⟨w.heap.size+1,1,none⟩ (.int .i64 V)).drew:=((L.setCell (by simp) _).setCell (by simp) _).drew;obtain⟨H,G,_,_⟩:=M.two;go_wp2_with fail;refine mO (v:= .tuple #[.agg #[.int .i64 K,.int .i64 V],.bool (V%2==0)]) (by simp[results,Tryz.results219,go_sem,H,G]) rfl ?_;refine⟨sK (by simp[bC]) (by simp[bC]) ?_,B⟩;simp[cR]<;>(rw[xU];simp)
theorem GH (K V:Int)(w:nA)(A:0<=K)(s:K<=3)(g:0<=V)(a:V<=99):
  nB fM 220 #[.agg #[.int .i64 K,.int .i64 V]] w fun e J=>e=.returned (.tuple #[.agg #[.int .i64 (bC 6 (K,V)).1,.int .i64 (bC 6 (K,V)).2],.bool (cR 6 (K,V))])/\oU w.heap.size w J:=by
 have _u:(0<=K/\K<=3)/\(0<=V/\V<=99):=⟨⟨A,s⟩,⟨g,a⟩⟩;obtain⟨O,D,L⟩:=tH K V w;obtain⟨i0,T,_,_⟩:=O.two;obtain⟨R,Q,Y,U⟩:=D.two;have S:w.heap.size≠w.heap.size+1:=by omega
 go_enter Tryz.func220,Tryz.ntmps220
 go_upto_region 1 with fail
 generalize ((w.alloc (pQ K V)).alloc (pQ 0 0))=I at*
 go_region
 have M:=(D.ai (.int .i64 K) (.int .i64 V)).drew;have B:oU w.heap.size w ((I.setCell ⟨w.heap.size+1,0,none⟩ (.int .i64 K)).setCell ⟨w.heap.size+1,1,none⟩ (.int .i64 V)).drew:=((L.setCell (by simp) _).setCell (by simp) _).drew;obtain⟨H,G,_,_⟩:=M.two;go_wp2_with fail;refine mO (v:= .tuple #[.agg #[.int .i64 K,.int .i64 V],.bool (K%2==0)]) (by simp[results,Tryz.results220,go_sem,H,G]) rfl ?_;refine⟨sK (by simp[bC]) (by simp[bC]) ?_,B⟩;simp[cR]<;>(rw[xU];simp)
theorem GI (K V:Int)(w:nA)(A:0<=K)(s:K<=3)(g:0<=V)(a:V<=99):
  nB fM 221 #[.agg #[.int .i64 K,.int .i64 V]] w fun e J=>e=.returned (.tuple #[.agg #[.int .i64 (bC 7 (K,V)).1,.int .i64 (bC 7 (K,V)).2],.bool (cR 7 (K,V))])/\oU w.heap.size w J:=by
 have _u:(0<=K/\K<=3)/\(0<=V/\V<=99):=⟨⟨A,s⟩,⟨g,a⟩⟩;obtain⟨O,D,L⟩:=tH K V w;obtain⟨i0,T,_,_⟩:=O.two;obtain⟨R,Q,Y,U⟩:=D.two;have S:w.heap.size≠w.heap.size+1:=by omega
 go_enter Tryz.func221,Tryz.ntmps221
 go_upto_region 1 with fail
 generalize ((w.alloc (pQ K V)).alloc (pQ 0 0))=I at*
 go_region
 have M:=(D.ai (.int .i64 K) (.int .i64 V)).drew;have B:oU w.heap.size w ((I.setCell ⟨w.heap.size+1,0,none⟩ (.int .i64 K)).setCell ⟨w.heap.size+1,1,none⟩ (.int .i64 V)).drew:=((L.setCell (by simp) _).setCell (by simp) _).drew;obtain⟨H,G,_,_⟩:=M.two;go_wp2_with fail;refine mO (v:= .tuple #[.agg #[.int .i64 K,.int .i64 V],.bool (decide (V<10))]) (by simp[results,Tryz.results221,go_sem,H,G]) rfl ?_;refine⟨sK (by simp[bC]) (by simp[bC]) ?_,B⟩;simp[cR]<;>(rw[xU];simp)
theorem qK {a b c:Int}{x y:Bool}(h1:a=c)(h2:b=d)(h3:x=y):Ending.returned (.tuple #[.int .i64 a,.int .i64 b,.bool x])=.returned (.tuple #[.int .i64 c,.int .i64 d,.bool y]):=by rw[h1,h2,h3]
theorem Ol (K V:Int)(w:nA)(A:0<=K)(s:K<=3)(g:0<=V)(a:V<=99):
  nB fM 228 #[.int .i64 K,.int .i64 V,.int .i64 1] w fun e B=>e=.returned (.tuple #[.int .i64 (bC 1 (K,V)).1,.int .i64 (bC 1 (K,V)).2,.bool (cR 1 (K,V))])/\oU w.heap.size w B:=by
 have _u:(0<=K/\K<=3)/\(0<=V/\V<=99):=⟨⟨A,s⟩,⟨g,a⟩⟩;go_enter jO,jB;go_wp2_with fail;refine mO (by simp[results,iP,go_sem];try rfl) rfl ?_;refine⟨qK ?_ ?_ ?_,pU _ _⟩
 all_goals simp only[bC,cR]
 all_goals first|(simp;done)|(simp;omega)|(rw[xU];simp)
theorem Om (K V:Int)(w:nA)(A:0<=K)(s:K<=3)(g:0<=V)(a:V<=99):
  nB fM 228 #[.int .i64 K,.int .i64 V,.int .i64 2] w fun e B=>e=.returned (.tuple #[.int .i64 (bC 2 (K,V)).1,.int .i64 (bC 2 (K,V)).2,.bool (cR 2 (K,V))])/\oU w.heap.size w B:=by
 have _u:(0<=K/\K<=3)/\(0<=V/\V<=99):=⟨⟨A,s⟩,⟨g,a⟩⟩;go_enter jO,jB;go_wp2_with fail;refine mO (by simp[results,iP,go_sem];try rfl) rfl ?_;refine⟨qK ?_ ?_ ?_,pU _ _⟩
 all_goals simp only[bC,cR]
 all_goals first|(simp;done)|(simp;omega)|(rw[xU];simp)
theorem On (K V:Int)(w:nA)(A:0<=K)(s:K<=3)(g:0<=V)(a:V<=99):
  nB fM 228 #[.int .i64 K,.int .i64 V,.int .i64 3] w fun e B=>e=.returned (.tuple #[.int .i64 (bC 3 (K,V)).1,.int .i64 (bC 3 (K,V)).2,.bool (cR 3 (K,V))])/\oU w.heap.size w B:=by
 have _u:(0<=K/\K<=3)/\(0<=V/\V<=99):=⟨⟨A,s⟩,⟨g,a⟩⟩;go_enter jO,jB;go_wp2_with fail;refine mO (by simp[results,iP,go_sem];try rfl) rfl ?_;refine⟨qK ?_ ?_ ?_,pU _ _⟩
 all_goals simp only[bC,cR]
 all_goals first|(simp;done)|(simp;omega)|(rw[xU];simp)
theorem Oo (K V:Int)(w:nA)(A:0<=K)(s:K<=3)(g:0<=V)(a:V<=99):
  nB fM 228 #[.int .i64 K,.int .i64 V,.int .i64 4] w fun e B=>e=.returned (.tuple #[.int .i64 (bC 4 (K,V)).1,.int .i64 (bC 4 (K,V)).2,.bool (cR 4 (K,V))])/\oU w.heap.size w B:=by
 have _u:(0<=K/\K<=3)/\(0<=V/\V<=99):=⟨⟨A,s⟩,⟨g,a⟩⟩;go_enter jO,jB;go_wp2_with fail;refine mO (by simp[results,iP,go_sem];try rfl) rfl ?_;refine⟨qK ?_ ?_ ?_,pU _ _⟩
 all_goals simp only[bC,cR]
 all_goals first|(simp;done)|(simp;omega)|(rw[xU];simp)
theorem Oq (K V:Int)(w:nA)(A:0<=K)(s:K<=3)(g:0<=V)(a:V<=99):
  nB fM 228 #[.int .i64 K,.int .i64 V,.int .i64 5] w fun e B=>e=.returned (.tuple #[.int .i64 (bC 5 (K,V)).1,.int .i64 (bC 5 (K,V)).2,.bool (cR 5 (K,V))])/\oU w.heap.size w B:=by
 have _u:(0<=K/\K<=3)/\(0<=V/\V<=99):=⟨⟨A,s⟩,⟨g,a⟩⟩;go_enter jO,jB;go_wp2_with fail;refine mO (by simp[results,iP,go_sem];try rfl) rfl ?_;refine⟨qK ?_ ?_ ?_,pU _ _⟩
 all_goals simp only[bC,cR]
 all_goals first|(simp;done)|(simp;omega)|(rw[xU];simp)
theorem Ot (K V:Int)(w:nA)(A:0<=K)(s:K<=3)(g:0<=V)(a:V<=99):
  nB fM 228 #[.int .i64 K,.int .i64 V,.int .i64 6] w fun e B=>e=.returned (.tuple #[.int .i64 (bC 6 (K,V)).1,.int .i64 (bC 6 (K,V)).2,.bool (cR 6 (K,V))])/\oU w.heap.size w B:=by
 have _u:(0<=K/\K<=3)/\(0<=V/\V<=99):=⟨⟨A,s⟩,⟨g,a⟩⟩;go_enter jO,jB;go_wp2_with fail;refine mO (by simp[results,iP,go_sem];try rfl) rfl ?_;refine⟨qK ?_ ?_ ?_,pU _ _⟩
 all_goals simp only[bC,cR]
 all_goals first|(simp;done)|(simp;omega)|(rw[xU];simp)
theorem Ou (K V:Int)(w:nA)(A:0<=K)(s:K<=3)(g:0<=V)(a:V<=99):
  nB fM 228 #[.int .i64 K,.int .i64 V,.int .i64 7] w fun e B=>e=.returned (.tuple #[.int .i64 (bC 7 (K,V)).1,.int .i64 (bC 7 (K,V)).2,.bool (cR 7 (K,V))])/\oU w.heap.size w B:=by
 have _u:(0<=K/\K<=3)/\(0<=V/\V<=99):=⟨⟨A,s⟩,⟨g,a⟩⟩;go_enter jO,jB;go_wp2_with fail;refine mO (by simp[results,iP,go_sem];try rfl) rfl ?_;refine⟨qK ?_ ?_ ?_,pU _ _⟩
 all_goals simp only[bC,cR]
 all_goals first|(simp;done)|(simp;omega)|(rw[xU];simp)
theorem F2 {K V:Int}{r:Bool}(h:cR how (K,V)=r)(g:cG how 1 7=true)(s:jK (K,V))(w:nA):
  nB fM 228 #[.int .i64 K,.int .i64 V,.int .i64 how] w fun e a=>e=.returned (.tuple #[.int .i64 (bC how (K,V)).1,.int .i64 (bC how (K,V)).2,.bool r])/\oU w.heap.size w a:=by
 rw[<- h];obtain⟨h1,h2,h3,h4⟩:=s;simp only[cG,decide_eq_true_eq]at g;obtain rfl|rfl|rfl|rfl|rfl|rfl|rfl:how=1\/how=2\/how=3\/how=4\/how=5\/how=6\/how=7:=by omega
 ·exact Ol K V w h1 h2 h3 h4
 ·exact Om K V w h1 h2 h3 h4
 ·exact On K V w h1 h2 h3 h4
 ·exact Oo K V w h1 h2 h3 h4
 ·exact Oq K V w h1 h2 h3 h4
 ·exact Ot K V w h1 h2 h3 h4
 ·exact Ou K V w h1 h2 h3 h4
theorem mS {l:List It}{k:Nat}{s:Int×Int}(h:l[k]?=some (s,d))(hp:cR how s=true):aP how (l.take (k+1))=aP how (l.take k)++[(bC how s,d)]:=by
 unfold aP;rw[fK h,tJ,tK];simp[hp]
theorem oQ {l:List It}{k:Nat}{s:Int×Int}(h:l[k]?=some (s,d))(hp:cR how s=false):aP how (l.take (k+1))=aP how (l.take k):=by
 unfold aP;rw[fK h,tJ,tK];simp[hp]
open Go.ChangeMaps (setBlock)
theorem Cd (w:nA):nB fM 171 #[.int .i64 1] w fun e a=>e=.returned (.tuple #[.func (.func 215) #[] #[],.bool true])/\oU w.heap.size w a:=by
 go_enter iM,gX;go_wp2_with fail;refine mO (by simp[results,gQ,go_sem];try rfl) rfl ?_;exact⟨rfl,aH (pU _ _) _⟩
theorem Dl (v:nX)(l:List It)(w:nA)(h:Is w v l):
  nB fM 144 #[v,.int .i64 1] w fun e w'=>∃o:nX,e=.returned o/\aQ w' w.heap.size o (eU l 1)/\oU w.heap.size w w':=by
 cases G:aX l
 ·have HF:Hid (eU l 1=[]):=oR G;go_enter gM,gD;go_wp2_with fail;refine (Cd _).mono ?_;rintro e w1 ⟨rfl,I⟩;go_wp2_with fail;refine (cH G (h.keep I)).mono ?_;rintro e w2 ⟨rfl,x0⟩;go_wp2_with fail;go_ret;refine⟨_,rfl,?_,aG I x0⟩;rw[HF.out];exact oN _ _ _ _ _
 have HF:Hid (eU l 1=aO bJ (aP 1 l)):=lZ G (by decide);have hl:=dF G;have HK:Hid (∀(k:Nat)(s:Int×Int)(d:Int),l[k]?=some (s,d)->jK s):=fun k s d hr=>mN G _ (qV hr);have HA:Hid (∀k:Nat,aJ (aP 1 (l.take k))<=439804651110400):=fun k=>by have h1:=mT 1 (l.take k);have h2:=kM G k;omega
 have v3:=@oW fM;go_enter gM,gD;go_wp2_with fail;refine (Cd _).mono ?_;rintro e w0 ⟨rfl,x1⟩;go_wp2_with fail;refine (cH G (h.keep x1)).mono ?_;rintro e w1 ⟨rfl,I⟩;have O:=aG x1 I;have d3:=O.size;obtain⟨a,d9,rfl,hc,hm,hn,H⟩:=Is.open (h.keep O);unfold maxLen at hm;have HC:=(show Hid _ from H);clear H h G x1 I;have m0:bG gC thOk (w1.alloc (.map #[] 0)) w1.heap.size []:=bG.new w1 rfl;have y5:oU w1.heap.size w1 (w1.alloc (.map #[] 0)):=aH (pU _ _) _;go_wp2_with fail;clear v3
 go_loopw [27] (fun i wr=>∃(k:Nat)(M:List It),k<=l.length/\i=.int .i64 k/\bG gC thOk wr w1.heap.size M/\(∀s,aK M s=aK (aP 1 (l.take k)) s)/\M.length<=k/\oU w1.heap.size w1 wr) (fun i _=>l.length-(intOf i).toNat)
 case atStart=>exact⟨0,[],by omega,rfl,m0,fun s=>by simp[aP],by simp,y5⟩
 case round=>
  clear m0 y5;obtain⟨k,M,d6,rfl,J,h9,d8,S⟩:=hrel;have U:=(show Hid _ from h9);clear h9
  by_cases v4:k<l.length
  ·obtain⟨g,off,K,V,D,rfl,hg,hr,c0,c1,c2⟩:=HC.out k v4;have v5:=HK.out k _ _ hr;have d0:=cB S c0;have d1:=cB S c1;have d2:=cB S c2;have HR:=(show Hid _ from hr);have ik:((k:Int)<(l.length:Int)):=by omega
   have bx:=Bk.new (w:=wr) #[.int .i64 K,.int .i64 V,.int .i64 D] 98 rfl;have L:oU wr.heap.size wr (wr.alloc (.cells #[.int .i64 K,.int .i64 V,.int .i64 D] 98)):=aH (pU _ _) _;have x9:=aG S L;have mx:=J.keep L;obtain⟨i1,i2,i3,i4⟩:=v5;have a2:Hid (thOk (bC 1 (K,V))):=rW (uS ⟨i1,i2,i3,i4⟩);simp only at i1 i2 i3 i4;clear c0 c1 c2 hr J L S
   go_upto_region 8 with fail
   clear d0 d1 d2;generalize wr.heap.size=tb at*;generalize tN _ _=wx at*;obtain⟨q0,q1,q2⟩:=bx.three;go_wp2_with fail;refine (GB K V _ i1 i2 i3 i4).mono ?_;rintro e Y ⟨rfl,Q⟩;have y6:=bx.keep Q
   have my:=mx.keep Q
   have y4:=aG x9 Q
   have HM:Hid (bC 1 (K,V)=((bC 1 (K,V)).1,(bC 1 (K,V)).2)):=rfl;have z7:Hid (cR 1 (K,V)=true->aP 1 (l.take (k+1))=aP 1 (l.take k)++[(bC 1 (K,V),D)]):=fun hp=>mS HR.out hp;have a0:Hid (cR 1 (K,V)=false->aP 1 (l.take (k+1))=aP 1 (l.take k)):=fun hp=>oQ HR.out hp;clear q0 q1 q2 bx mx x9 Q
   generalize (bC 1 (K,V)).1=B at*;generalize (bC 1 (K,V)).2=A at*;generalize hP:cR 1 (K,V)=r at*;clear hP;have w4:=Bk.new (w:=Y) #[.int .i64 B,.int .i64 A] 131 rfl;have R:oU Y.heap.size Y (Y.alloc (.cells #[.int .i64 B,.int .i64 A] 131)):=aH (pU _ _) _;have bz:=y6.keep R;have mz:=my.keep R;have x8:=aG y4 R;have d4:=mz.lt
   go_upto_region 9 with fail
   clear y6 my y4 R;generalize Y.heap.size=ub at*;generalize tN _ _=wt at*;cases r
   ·have HZ:Hid (aP 1 (l.take (k+1))=aP 1 (l.take k)):=a0.out rfl;go_wp2_with fail;go_roundw
    case rel=>exact⟨k+1,M,by omega,by go_num,mz,(by rw[HZ.out];exact U.out),by omega,x8⟩
    case measure=>simp[intOf];omega
   ·have HZ:Hid (aP 1 (l.take (k+1))=aP 1 (l.take k)++[((B,A),D)]):=by show _=_;rw[z7.out rfl,HM.out]
    have x7:thOk (B,A):=by have:=a2.out;rw[HM.out]at this;exact this
    have x2:=HA.out (k+1);rw[HZ.out,cV]at x2;obtain⟨st,o1,o2,M',e1,e2,e3,v8,x6,d5⟩:=bG.enter (mz.move (w1:=wt.drew) rfl) j6 fQ iL x7 (aK M (B,A)+D)
    change (xV _ _ (.int .i64 (st:Int)) _).run _ _=_ at e3
    have e0:=bG.look (mz.move (w1:=wt.drew) rfl) j6 fQ iL x7;obtain⟨y0,y1,y2⟩:=bz.three;obtain⟨t0,t1,_,_⟩:=w4.two;have z3: -4611686018427387904<=aK M (B,A)+D/\aK M (B,A)+D<=4611686018427387904:=by
     have h1:=iT (aP 1 (l.take k)) (B,A);rw[<- U.out]at h1;simp only[aJ]at x2;have:=eN (aP 1 (l.take k));omega
    have HN:Hid (∀s,aK M' s=aK (aP 1 (l.take (k+1))) s):=fun s=>by
     rw[x6,HZ.out,eG]
     by_cases e:(B,A)=s
     ·rw[if_pos e,if_pos e,<-U.out,e]
     ·rw[if_neg e,if_neg e,U.out];omega
    clear x6 x2;obtain⟨b0,a9⟩:=z3;generalize hT:aK M (B,A)=T at*;have d7:Hid (aK M (B,A)=T):=hT;clear hT;have iw:tM.wrap (T+D)=T+D:=by rw[tL];omega
    go_upto_region 10 with fail
    go_region
    clear e0 e1 e2 e3;have x0:oU w1.heap.size w1 (setBlock wt.drew w1.heap.size o2):=eR x8.drew (AP _);generalize setBlock wt.drew w1.heap.size o2=w7 at*;go_wp2_with fail;go_roundw
    case rel=>exact⟨k+1,M',by omega,by go_num,v8,HN.out,by omega,x0⟩
    case measure=>simp[intOf];omega
  ·obtain rfl:k=l.length:=by omega
   have w6:Hid (∀s,aK M s=aK (aP 1 l) s):=fun s=>by rw[U.out,sD]
   have y3:=aG O S;have z4:=y3.size;clear U;go_wp2_with fail;refine (kV w1.heap.size wr J (by omega) w6.out).mono ?_;rintro e w8 ⟨o8,rfl,Z,v6⟩;have O8:Hid (aQ w8 wr.heap.size o8 (aO bJ (aP 1 l))):=Z;clear Z;go_wp2_with fail;go_ret;refine⟨_,rfl,?_,aG y3 v6⟩;rw[HF.out];exact cW O8.out z4
theorem Ce (w:nA):nB fM 171 #[.int .i64 2] w fun e a=>e=.returned (.tuple #[.func (.func 216) #[] #[],.bool true])/\oU w.heap.size w a:=by
 go_enter iM,gX;go_wp2_with fail;refine mO (by simp[results,gQ,go_sem];try rfl) rfl ?_;exact⟨rfl,aH (pU _ _) _⟩
theorem Dm (v:nX)(l:List It)(w:nA)(h:Is w v l):
  nB fM 144 #[v,.int .i64 2] w fun e w'=>∃o:nX,e=.returned o/\aQ w' w.heap.size o (eU l 2)/\oU w.heap.size w w':=by
 cases G:aX l
 ·have HF:Hid (eU l 2=[]):=oR G;go_enter gM,gD;go_wp2_with fail;refine (Ce _).mono ?_;rintro e w1 ⟨rfl,I⟩;go_wp2_with fail;refine (cH G (h.keep I)).mono ?_;rintro e w2 ⟨rfl,x0⟩;go_wp2_with fail;go_ret;refine⟨_,rfl,?_,aG I x0⟩;rw[HF.out];exact oN _ _ _ _ _
 have HF:Hid (eU l 2=aO bJ (aP 2 l)):=lZ G (by decide);have hl:=dF G;have HK:Hid (∀(k:Nat)(s:Int×Int)(d:Int),l[k]?=some (s,d)->jK s):=fun k s d hr=>mN G _ (qV hr);have HA:Hid (∀k:Nat,aJ (aP 2 (l.take k))<=439804651110400):=fun k=>by have h1:=mT 2 (l.take k);have h2:=kM G k;omega
 have v3:=@oW fM;go_enter gM,gD;go_wp2_with fail;refine (Ce _).mono ?_;rintro e w0 ⟨rfl,x1⟩;go_wp2_with fail;refine (cH G (h.keep x1)).mono ?_;rintro e w1 ⟨rfl,I⟩;have O:=aG x1 I;have d3:=O.size;obtain⟨a,d9,rfl,hc,hm,hn,H⟩:=Is.open (h.keep O);unfold maxLen at hm;have HC:=(show Hid _ from H);clear H h G x1 I;have m0:bG gC thOk (w1.alloc (.map #[] 0)) w1.heap.size []:=bG.new w1 rfl;have y5:oU w1.heap.size w1 (w1.alloc (.map #[] 0)):=aH (pU _ _) _;go_wp2_with fail;clear v3
 go_loopw [27] (fun i wr=>∃(k:Nat)(M:List It),k<=l.length/\i=.int .i64 k/\bG gC thOk wr w1.heap.size M/\(∀s,aK M s=aK (aP 2 (l.take k)) s)/\M.length<=k/\oU w1.heap.size w1 wr) (fun i _=>l.length-(intOf i).toNat)
 case atStart=>exact⟨0,[],by omega,rfl,m0,fun s=>by simp[aP],by simp,y5⟩
 case round=>
  clear m0 y5;obtain⟨k,M,d6,rfl,J,h9,d8,S⟩:=hrel;have U:=(show Hid _ from h9);clear h9
  by_cases v4:k<l.length
  ·obtain⟨g,off,K,V,D,rfl,hg,hr,c0,c1,c2⟩:=HC.out k v4;have v5:=HK.out k _ _ hr;have d0:=cB S c0;have d1:=cB S c1;have d2:=cB S c2;have HR:=(show Hid _ from hr);have ik:((k:Int)<(l.length:Int)):=by omega
   have bx:=Bk.new (w:=wr) #[.int .i64 K,.int .i64 V,.int .i64 D] 98 rfl;have L:oU wr.heap.size wr (wr.alloc (.cells #[.int .i64 K,.int .i64 V,.int .i64 D] 98)):=aH (pU _ _) _;have x9:=aG S L;have mx:=J.keep L;obtain⟨i1,i2,i3,i4⟩:=v5;have a2:Hid (thOk (bC 2 (K,V))):=rW (uS ⟨i1,i2,i3,i4⟩);simp only at i1 i2 i3 i4;clear c0 c1 c2 hr J L S
   go_upto_region 8 with fail
   clear d0 d1 d2;generalize wr.heap.size=tb at*;generalize tN _ _=wx at*;obtain⟨q0,q1,q2⟩:=bx.three;go_wp2_with fail;refine (GC K V _ i1 i2 i3 i4).mono ?_;rintro e Y ⟨rfl,Q⟩;have y6:=bx.keep Q
   have my:=mx.keep Q
   have y4:=aG x9 Q
   have HM:Hid (bC 2 (K,V)=((bC 2 (K,V)).1,(bC 2 (K,V)).2)):=rfl;have z7:Hid (cR 2 (K,V)=true->aP 2 (l.take (k+1))=aP 2 (l.take k)++[(bC 2 (K,V),D)]):=fun hp=>mS HR.out hp;have a0:Hid (cR 2 (K,V)=false->aP 2 (l.take (k+1))=aP 2 (l.take k)):=fun hp=>oQ HR.out hp;clear q0 q1 q2 bx mx x9 Q
   generalize (bC 2 (K,V)).1=B at*;generalize (bC 2 (K,V)).2=A at*;generalize hP:cR 2 (K,V)=r at*;clear hP;have w4:=Bk.new (w:=Y) #[.int .i64 B,.int .i64 A] 131 rfl;have R:oU Y.heap.size Y (Y.alloc (.cells #[.int .i64 B,.int .i64 A] 131)):=aH (pU _ _) _;have bz:=y6.keep R;have mz:=my.keep R;have x8:=aG y4 R;have d4:=mz.lt
   go_upto_region 9 with fail
   clear y6 my y4 R;generalize Y.heap.size=ub at*;generalize tN _ _=wt at*;cases r
   ·have HZ:Hid (aP 2 (l.take (k+1))=aP 2 (l.take k)):=a0.out rfl;go_wp2_with fail;go_roundw
    case rel=>exact⟨k+1,M,by omega,by go_num,mz,(by rw[HZ.out];exact U.out),by omega,x8⟩
    case measure=>simp[intOf];omega
   ·have HZ:Hid (aP 2 (l.take (k+1))=aP 2 (l.take k)++[((B,A),D)]):=by show _=_;rw[z7.out rfl,HM.out]
    have x7:thOk (B,A):=by have:=a2.out;rw[HM.out]at this;exact this
    have x2:=HA.out (k+1);rw[HZ.out,cV]at x2;obtain⟨st,o1,o2,M',e1,e2,e3,v8,x6,d5⟩:=bG.enter (mz.move (w1:=wt.drew) rfl) j6 fQ iL x7 (aK M (B,A)+D)
    change (xV _ _ (.int .i64 (st:Int)) _).run _ _=_ at e3
    have e0:=bG.look (mz.move (w1:=wt.drew) rfl) j6 fQ iL x7;obtain⟨y0,y1,y2⟩:=bz.three;obtain⟨t0,t1,_,_⟩:=w4.two;have z3: -4611686018427387904<=aK M (B,A)+D/\aK M (B,A)+D<=4611686018427387904:=by
     have h1:=iT (aP 2 (l.take k)) (B,A);rw[<- U.out]at h1;simp only[aJ]at x2;have:=eN (aP 2 (l.take k));omega
    have HN:Hid (∀s,aK M' s=aK (aP 2 (l.take (k+1))) s):=fun s=>by
     rw[x6,HZ.out,eG]
     by_cases e:(B,A)=s
     ·rw[if_pos e,if_pos e,<-U.out,e]
     ·rw[if_neg e,if_neg e,U.out];omega
    clear x6 x2;obtain⟨b0,a9⟩:=z3;generalize hT:aK M (B,A)=T at*;have d7:Hid (aK M (B,A)=T):=hT;clear hT;have iw:tM.wrap (T+D)=T+D:=by rw[tL];omega
    go_upto_region 10 with fail
    go_region
    clear e0 e1 e2 e3;have x0:oU w1.heap.size w1 (setBlock wt.drew w1.heap.size o2):=eR x8.drew (AP _);generalize setBlock wt.drew w1.heap.size o2=w7 at*;go_wp2_with fail;go_roundw
    case rel=>exact⟨k+1,M',by omega,by go_num,v8,HN.out,by omega,x0⟩
    case measure=>simp[intOf];omega
  ·obtain rfl:k=l.length:=by omega
   have w6:Hid (∀s,aK M s=aK (aP 2 l) s):=fun s=>by rw[U.out,sD]
   have y3:=aG O S;have z4:=y3.size;clear U;go_wp2_with fail;refine (kV w1.heap.size wr J (by omega) w6.out).mono ?_;rintro e w8 ⟨o8,rfl,Z,v6⟩;have O8:Hid (aQ w8 wr.heap.size o8 (aO bJ (aP 2 l))):=Z;clear Z;go_wp2_with fail;go_ret;refine⟨_,rfl,?_,aG y3 v6⟩;rw[HF.out];exact cW O8.out z4
theorem Cf (w:nA):nB fM 171 #[.int .i64 3] w fun e a=>e=.returned (.tuple #[.func (.func 217) #[] #[],.bool true])/\oU w.heap.size w a:=by
 go_enter iM,gX;go_wp2_with fail;refine mO (by simp[results,gQ,go_sem];try rfl) rfl ?_;exact⟨rfl,aH (pU _ _) _⟩
theorem Dn (v:nX)(l:List It)(w:nA)(h:Is w v l):
  nB fM 144 #[v,.int .i64 3] w fun e w'=>∃o:nX,e=.returned o/\aQ w' w.heap.size o (eU l 3)/\oU w.heap.size w w':=by
 cases G:aX l
 ·have HF:Hid (eU l 3=[]):=oR G;go_enter gM,gD;go_wp2_with fail;refine (Cf _).mono ?_;rintro e w1 ⟨rfl,I⟩;go_wp2_with fail;refine (cH G (h.keep I)).mono ?_;rintro e w2 ⟨rfl,x0⟩;go_wp2_with fail;go_ret;refine⟨_,rfl,?_,aG I x0⟩;rw[HF.out];exact oN _ _ _ _ _
 have HF:Hid (eU l 3=aO bJ (aP 3 l)):=lZ G (by decide);have hl:=dF G;have HK:Hid (∀(k:Nat)(s:Int×Int)(d:Int),l[k]?=some (s,d)->jK s):=fun k s d hr=>mN G _ (qV hr);have HA:Hid (∀k:Nat,aJ (aP 3 (l.take k))<=439804651110400):=fun k=>by have h1:=mT 3 (l.take k);have h2:=kM G k;omega
 have v3:=@oW fM;go_enter gM,gD;go_wp2_with fail;refine (Cf _).mono ?_;rintro e w0 ⟨rfl,x1⟩;go_wp2_with fail;refine (cH G (h.keep x1)).mono ?_;rintro e w1 ⟨rfl,I⟩;have O:=aG x1 I;have d3:=O.size;obtain⟨a,d9,rfl,hc,hm,hn,H⟩:=Is.open (h.keep O);unfold maxLen at hm;have HC:=(show Hid _ from H);clear H h G x1 I;have m0:bG gC thOk (w1.alloc (.map #[] 0)) w1.heap.size []:=bG.new w1 rfl;have y5:oU w1.heap.size w1 (w1.alloc (.map #[] 0)):=aH (pU _ _) _;go_wp2_with fail;clear v3
 go_loopw [27] (fun i wr=>∃(k:Nat)(M:List It),k<=l.length/\i=.int .i64 k/\bG gC thOk wr w1.heap.size M/\(∀s,aK M s=aK (aP 3 (l.take k)) s)/\M.length<=k/\oU w1.heap.size w1 wr) (fun i _=>l.length-(intOf i).toNat)
 case atStart=>exact⟨0,[],by omega,rfl,m0,fun s=>by simp[aP],by simp,y5⟩
 case round=>
  clear m0 y5;obtain⟨k,M,d6,rfl,J,h9,d8,S⟩:=hrel;have U:=(show Hid _ from h9);clear h9
  by_cases v4:k<l.length
  ·obtain⟨g,off,K,V,D,rfl,hg,hr,c0,c1,c2⟩:=HC.out k v4;have v5:=HK.out k _ _ hr;have d0:=cB S c0;have d1:=cB S c1;have d2:=cB S c2;have HR:=(show Hid _ from hr);have ik:((k:Int)<(l.length:Int)):=by omega
   have bx:=Bk.new (w:=wr) #[.int .i64 K,.int .i64 V,.int .i64 D] 98 rfl;have L:oU wr.heap.size wr (wr.alloc (.cells #[.int .i64 K,.int .i64 V,.int .i64 D] 98)):=aH (pU _ _) _;have x9:=aG S L;have mx:=J.keep L;obtain⟨i1,i2,i3,i4⟩:=v5;have a2:Hid (thOk (bC 3 (K,V))):=rW (uS ⟨i1,i2,i3,i4⟩);simp only at i1 i2 i3 i4;clear c0 c1 c2 hr J L S
   go_upto_region 8 with fail
   clear d0 d1 d2;generalize wr.heap.size=tb at*;generalize tN _ _=wx at*;obtain⟨q0,q1,q2⟩:=bx.three;go_wp2_with fail;refine (GD K V _ i1 i2 i3 i4).mono ?_;rintro e Y ⟨rfl,Q⟩;have y6:=bx.keep Q
   have my:=mx.keep Q
   have y4:=aG x9 Q
   have HM:Hid (bC 3 (K,V)=((bC 3 (K,V)).1,(bC 3 (K,V)).2)):=rfl;have z7:Hid (cR 3 (K,V)=true->aP 3 (l.take (k+1))=aP 3 (l.take k)++[(bC 3 (K,V),D)]):=fun hp=>mS HR.out hp;have a0:Hid (cR 3 (K,V)=false->aP 3 (l.take (k+1))=aP 3 (l.take k)):=fun hp=>oQ HR.out hp;clear q0 q1 q2 bx mx x9 Q
   generalize (bC 3 (K,V)).1=B at*;generalize (bC 3 (K,V)).2=A at*;generalize hP:cR 3 (K,V)=r at*;clear hP;have w4:=Bk.new (w:=Y) #[.int .i64 B,.int .i64 A] 131 rfl;have R:oU Y.heap.size Y (Y.alloc (.cells #[.int .i64 B,.int .i64 A] 131)):=aH (pU _ _) _;have bz:=y6.keep R;have mz:=my.keep R;have x8:=aG y4 R;have d4:=mz.lt
   go_upto_region 9 with fail
   clear y6 my y4 R;generalize Y.heap.size=ub at*;generalize tN _ _=wt at*;cases r
   ·have HZ:Hid (aP 3 (l.take (k+1))=aP 3 (l.take k)):=a0.out rfl;go_wp2_with fail;go_roundw
    case rel=>exact⟨k+1,M,by omega,by go_num,mz,(by rw[HZ.out];exact U.out),by omega,x8⟩
    case measure=>simp[intOf];omega
   ·have HZ:Hid (aP 3 (l.take (k+1))=aP 3 (l.take k)++[((B,A),D)]):=by show _=_;rw[z7.out rfl,HM.out]
    have x7:thOk (B,A):=by have:=a2.out;rw[HM.out]at this;exact this
    have x2:=HA.out (k+1);rw[HZ.out,cV]at x2;obtain⟨st,o1,o2,M',e1,e2,e3,v8,x6,d5⟩:=bG.enter (mz.move (w1:=wt.drew) rfl) j6 fQ iL x7 (aK M (B,A)+D)
    change (xV _ _ (.int .i64 (st:Int)) _).run _ _=_ at e3
    have e0:=bG.look (mz.move (w1:=wt.drew) rfl) j6 fQ iL x7;obtain⟨y0,y1,y2⟩:=bz.three;obtain⟨t0,t1,_,_⟩:=w4.two;have z3: -4611686018427387904<=aK M (B,A)+D/\aK M (B,A)+D<=4611686018427387904:=by
     have h1:=iT (aP 3 (l.take k)) (B,A);rw[<- U.out]at h1;simp only[aJ]at x2;have:=eN (aP 3 (l.take k));omega
    have HN:Hid (∀s,aK M' s=aK (aP 3 (l.take (k+1))) s):=fun s=>by
     rw[x6,HZ.out,eG]
     by_cases e:(B,A)=s
     ·rw[if_pos e,if_pos e,<-U.out,e]
     ·rw[if_neg e,if_neg e,U.out];omega
    clear x6 x2;obtain⟨b0,a9⟩:=z3;generalize hT:aK M (B,A)=T at*;have d7:Hid (aK M (B,A)=T):=hT;clear hT;have iw:tM.wrap (T+D)=T+D:=by rw[tL];omega
    go_upto_region 10 with fail
    go_region
    clear e0 e1 e2 e3;have x0:oU w1.heap.size w1 (setBlock wt.drew w1.heap.size o2):=eR x8.drew (AP _);generalize setBlock wt.drew w1.heap.size o2=w7 at*;go_wp2_with fail;go_roundw
    case rel=>exact⟨k+1,M',by omega,by go_num,v8,HN.out,by omega,x0⟩
    case measure=>simp[intOf];omega
  ·obtain rfl:k=l.length:=by omega
   have w6:Hid (∀s,aK M s=aK (aP 3 l) s):=fun s=>by rw[U.out,sD]
   have y3:=aG O S;have z4:=y3.size;clear U;go_wp2_with fail;refine (kV w1.heap.size wr J (by omega) w6.out).mono ?_;rintro e w8 ⟨o8,rfl,Z,v6⟩;have O8:Hid (aQ w8 wr.heap.size o8 (aO bJ (aP 3 l))):=Z;clear Z;go_wp2_with fail;go_ret;refine⟨_,rfl,?_,aG y3 v6⟩;rw[HF.out];exact cW O8.out z4
open Go.ChangeMaps (setBlock)
theorem Cg (w:nA):nB fM 171 #[.int .i64 4] w fun e a=>e=.returned (.tuple #[.func (.func 218) #[] #[],.bool true])/\oU w.heap.size w a:=by
 go_enter iM,gX;go_wp2_with fail;refine mO (by simp[results,gQ,go_sem];try rfl) rfl ?_;exact⟨rfl,aH (pU _ _) _⟩
theorem Dp (v:nX)(l:List It)(w:nA)(h:Is w v l):
  nB fM 144 #[v,.int .i64 4] w fun e w'=>∃o:nX,e=.returned o/\aQ w' w.heap.size o (eU l 4)/\oU w.heap.size w w':=by
 cases G:aX l
 ·have HF:Hid (eU l 4=[]):=oR G;go_enter gM,gD;go_wp2_with fail;refine (Cg _).mono ?_;rintro e w1 ⟨rfl,I⟩;go_wp2_with fail;refine (cH G (h.keep I)).mono ?_;rintro e w2 ⟨rfl,x0⟩;go_wp2_with fail;go_ret;refine⟨_,rfl,?_,aG I x0⟩;rw[HF.out];exact oN _ _ _ _ _
 have HF:Hid (eU l 4=aO bJ (aP 4 l)):=lZ G (by decide);have hl:=dF G;have HK:Hid (∀(k:Nat)(s:Int×Int)(d:Int),l[k]?=some (s,d)->jK s):=fun k s d hr=>mN G _ (qV hr);have HA:Hid (∀k:Nat,aJ (aP 4 (l.take k))<=439804651110400):=fun k=>by have h1:=mT 4 (l.take k);have h2:=kM G k;omega
 have v3:=@oW fM;go_enter gM,gD;go_wp2_with fail;refine (Cg _).mono ?_;rintro e w0 ⟨rfl,x1⟩;go_wp2_with fail;refine (cH G (h.keep x1)).mono ?_;rintro e w1 ⟨rfl,I⟩;have O:=aG x1 I;have d3:=O.size;obtain⟨a,d9,rfl,hc,hm,hn,H⟩:=Is.open (h.keep O);unfold maxLen at hm;have HC:=(show Hid _ from H);clear H h G x1 I;have m0:bG gC thOk (w1.alloc (.map #[] 0)) w1.heap.size []:=bG.new w1 rfl;have y5:oU w1.heap.size w1 (w1.alloc (.map #[] 0)):=aH (pU _ _) _;go_wp2_with fail;clear v3
 go_loopw [27] (fun i wr=>∃(k:Nat)(M:List It),k<=l.length/\i=.int .i64 k/\bG gC thOk wr w1.heap.size M/\(∀s,aK M s=aK (aP 4 (l.take k)) s)/\M.length<=k/\oU w1.heap.size w1 wr) (fun i _=>l.length-(intOf i).toNat)
 case atStart=>exact⟨0,[],by omega,rfl,m0,fun s=>by simp[aP],by simp,y5⟩
 case round=>
  clear m0 y5;obtain⟨k,M,d6,rfl,J,h9,d8,S⟩:=hrel;have U:=(show Hid _ from h9);clear h9
  by_cases v4:k<l.length
  ·obtain⟨g,off,K,V,D,rfl,hg,hr,c0,c1,c2⟩:=HC.out k v4;have v5:=HK.out k _ _ hr;have d0:=cB S c0;have d1:=cB S c1;have d2:=cB S c2;have HR:=(show Hid _ from hr);have ik:((k:Int)<(l.length:Int)):=by omega
   have bx:=Bk.new (w:=wr) #[.int .i64 K,.int .i64 V,.int .i64 D] 98 rfl;have L:oU wr.heap.size wr (wr.alloc (.cells #[.int .i64 K,.int .i64 V,.int .i64 D] 98)):=aH (pU _ _) _;have x9:=aG S L;have mx:=J.keep L;obtain⟨i1,i2,i3,i4⟩:=v5;have a2:Hid (thOk (bC 4 (K,V))):=rW (uS ⟨i1,i2,i3,i4⟩);simp only at i1 i2 i3 i4;clear c0 c1 c2 hr J L S
   go_upto_region 8 with fail
   clear d0 d1 d2;generalize wr.heap.size=tb at*;generalize tN _ _=wx at*;obtain⟨q0,q1,q2⟩:=bx.three;go_wp2_with fail;refine (GF K V _ i1 i2 i3 i4).mono ?_;rintro e Y ⟨rfl,Q⟩;have y6:=bx.keep Q
   have my:=mx.keep Q
   have y4:=aG x9 Q
   have HM:Hid (bC 4 (K,V)=((bC 4 (K,V)).1,(bC 4 (K,V)).2)):=rfl;have z7:Hid (cR 4 (K,V)=true->aP 4 (l.take (k+1))=aP 4 (l.take k)++[(bC 4 (K,V),D)]):=fun hp=>mS HR.out hp;have a0:Hid (cR 4 (K,V)=false->aP 4 (l.take (k+1))=aP 4 (l.take k)):=fun hp=>oQ HR.out hp;clear q0 q1 q2 bx mx x9 Q
   generalize (bC 4 (K,V)).1=B at*;generalize (bC 4 (K,V)).2=A at*;generalize hP:cR 4 (K,V)=r at*;clear hP;have w4:=Bk.new (w:=Y) #[.int .i64 B,.int .i64 A] 131 rfl;have R:oU Y.heap.size Y (Y.alloc (.cells #[.int .i64 B,.int .i64 A] 131)):=aH (pU _ _) _;have bz:=y6.keep R;have mz:=my.keep R;have x8:=aG y4 R;have d4:=mz.lt
   go_upto_region 9 with fail
   clear y6 my y4 R;generalize Y.heap.size=ub at*;generalize tN _ _=wt at*;cases r
   ·have HZ:Hid (aP 4 (l.take (k+1))=aP 4 (l.take k)):=a0.out rfl;go_wp2_with fail;go_roundw
    case rel=>exact⟨k+1,M,by omega,by go_num,mz,(by rw[HZ.out];exact U.out),by omega,x8⟩
    case measure=>simp[intOf];omega
   ·have HZ:Hid (aP 4 (l.take (k+1))=aP 4 (l.take k)++[((B,A),D)]):=by show _=_;rw[z7.out rfl,HM.out]
    have x7:thOk (B,A):=by have:=a2.out;rw[HM.out]at this;exact this
    have x2:=HA.out (k+1);rw[HZ.out,cV]at x2;obtain⟨st,o1,o2,M',e1,e2,e3,v8,x6,d5⟩:=bG.enter (mz.move (w1:=wt.drew) rfl) j6 fQ iL x7 (aK M (B,A)+D)
    change (xV _ _ (.int .i64 (st:Int)) _).run _ _=_ at e3
    have e0:=bG.look (mz.move (w1:=wt.drew) rfl) j6 fQ iL x7;obtain⟨y0,y1,y2⟩:=bz.three;obtain⟨t0,t1,_,_⟩:=w4.two;have z3: -4611686018427387904<=aK M (B,A)+D/\aK M (B,A)+D<=4611686018427387904:=by
     have h1:=iT (aP 4 (l.take k)) (B,A);rw[<- U.out]at h1;simp only[aJ]at x2;have:=eN (aP 4 (l.take k));omega
    have HN:Hid (∀s,aK M' s=aK (aP 4 (l.take (k+1))) s):=fun s=>by
     rw[x6,HZ.out,eG]
     by_cases e:(B,A)=s
     ·rw[if_pos e,if_pos e,<-U.out,e]
     ·rw[if_neg e,if_neg e,U.out];omega
    clear x6 x2;obtain⟨b0,a9⟩:=z3;generalize hT:aK M (B,A)=T at*;have d7:Hid (aK M (B,A)=T):=hT;clear hT;have iw:tM.wrap (T+D)=T+D:=by rw[tL];omega
    go_upto_region 10 with fail
    go_region
    clear e0 e1 e2 e3;have x0:oU w1.heap.size w1 (setBlock wt.drew w1.heap.size o2):=eR x8.drew (AP _);generalize setBlock wt.drew w1.heap.size o2=w7 at*;go_wp2_with fail;go_roundw
    case rel=>exact⟨k+1,M',by omega,by go_num,v8,HN.out,by omega,x0⟩
    case measure=>simp[intOf];omega
  ·obtain rfl:k=l.length:=by omega
   have w6:Hid (∀s,aK M s=aK (aP 4 l) s):=fun s=>by rw[U.out,sD]
   have y3:=aG O S;have z4:=y3.size;clear U;go_wp2_with fail;refine (kV w1.heap.size wr J (by omega) w6.out).mono ?_;rintro e w8 ⟨o8,rfl,Z,v6⟩;have O8:Hid (aQ w8 wr.heap.size o8 (aO bJ (aP 4 l))):=Z;clear Z;go_wp2_with fail;go_ret;refine⟨_,rfl,?_,aG y3 v6⟩;rw[HF.out];exact cW O8.out z4
theorem Ch (w:nA):nB fM 171 #[.int .i64 5] w fun e a=>e=.returned (.tuple #[.func (.func 219) #[] #[],.bool true])/\oU w.heap.size w a:=by
 go_enter iM,gX;go_wp2_with fail;refine mO (by simp[results,gQ,go_sem];try rfl) rfl ?_;exact⟨rfl,aH (pU _ _) _⟩
theorem Dq (v:nX)(l:List It)(w:nA)(h:Is w v l):
  nB fM 144 #[v,.int .i64 5] w fun e w'=>∃o:nX,e=.returned o/\aQ w' w.heap.size o (eU l 5)/\oU w.heap.size w w':=by
 cases G:aX l
 ·have HF:Hid (eU l 5=[]):=oR G;go_enter gM,gD;go_wp2_with fail;refine (Ch _).mono ?_;rintro e w1 ⟨rfl,I⟩;go_wp2_with fail;refine (cH G (h.keep I)).mono ?_;rintro e w2 ⟨rfl,x0⟩;go_wp2_with fail;go_ret;refine⟨_,rfl,?_,aG I x0⟩;rw[HF.out];exact oN _ _ _ _ _
 have HF:Hid (eU l 5=aO bJ (aP 5 l)):=lZ G (by decide);have hl:=dF G;have HK:Hid (∀(k:Nat)(s:Int×Int)(d:Int),l[k]?=some (s,d)->jK s):=fun k s d hr=>mN G _ (qV hr);have HA:Hid (∀k:Nat,aJ (aP 5 (l.take k))<=439804651110400):=fun k=>by have h1:=mT 5 (l.take k);have h2:=kM G k;omega
 have v3:=@oW fM;go_enter gM,gD;go_wp2_with fail;refine (Ch _).mono ?_;rintro e w0 ⟨rfl,x1⟩;go_wp2_with fail;refine (cH G (h.keep x1)).mono ?_;rintro e w1 ⟨rfl,I⟩;have O:=aG x1 I;have d3:=O.size;obtain⟨a,d9,rfl,hc,hm,hn,H⟩:=Is.open (h.keep O);unfold maxLen at hm;have HC:=(show Hid _ from H);clear H h G x1 I;have m0:bG gC thOk (w1.alloc (.map #[] 0)) w1.heap.size []:=bG.new w1 rfl;have y5:oU w1.heap.size w1 (w1.alloc (.map #[] 0)):=aH (pU _ _) _;go_wp2_with fail;clear v3
 go_loopw [27] (fun i wr=>∃(k:Nat)(M:List It),k<=l.length/\i=.int .i64 k/\bG gC thOk wr w1.heap.size M/\(∀s,aK M s=aK (aP 5 (l.take k)) s)/\M.length<=k/\oU w1.heap.size w1 wr) (fun i _=>l.length-(intOf i).toNat)
 case atStart=>exact⟨0,[],by omega,rfl,m0,fun s=>by simp[aP],by simp,y5⟩
 case round=>
  clear m0 y5;obtain⟨k,M,d6,rfl,J,h9,d8,S⟩:=hrel;have U:=(show Hid _ from h9);clear h9
  by_cases v4:k<l.length
  ·obtain⟨g,off,K,V,D,rfl,hg,hr,c0,c1,c2⟩:=HC.out k v4;have v5:=HK.out k _ _ hr;have d0:=cB S c0;have d1:=cB S c1;have d2:=cB S c2;have HR:=(show Hid _ from hr);have ik:((k:Int)<(l.length:Int)):=by omega
   have bx:=Bk.new (w:=wr) #[.int .i64 K,.int .i64 V,.int .i64 D] 98 rfl;have L:oU wr.heap.size wr (wr.alloc (.cells #[.int .i64 K,.int .i64 V,.int .i64 D] 98)):=aH (pU _ _) _;have x9:=aG S L;have mx:=J.keep L;obtain⟨i1,i2,i3,i4⟩:=v5;have a2:Hid (thOk (bC 5 (K,V))):=rW (uS ⟨i1,i2,i3,i4⟩);simp only at i1 i2 i3 i4;clear c0 c1 c2 hr J L S
   go_upto_region 8 with fail
   clear d0 d1 d2;generalize wr.heap.size=tb at*;generalize tN _ _=wx at*;obtain⟨q0,q1,q2⟩:=bx.three;go_wp2_with fail;refine (GG K V _ i1 i2 i3 i4).mono ?_;rintro e Y ⟨rfl,Q⟩;have y6:=bx.keep Q
   have my:=mx.keep Q
   have y4:=aG x9 Q
   have HM:Hid (bC 5 (K,V)=((bC 5 (K,V)).1,(bC 5 (K,V)).2)):=rfl;have z7:Hid (cR 5 (K,V)=true->aP 5 (l.take (k+1))=aP 5 (l.take k)++[(bC 5 (K,V),D)]):=fun hp=>mS HR.out hp;have a0:Hid (cR 5 (K,V)=false->aP 5 (l.take (k+1))=aP 5 (l.take k)):=fun hp=>oQ HR.out hp;clear q0 q1 q2 bx mx x9 Q
   generalize (bC 5 (K,V)).1=B at*;generalize (bC 5 (K,V)).2=A at*;generalize hP:cR 5 (K,V)=r at*;clear hP;have w4:=Bk.new (w:=Y) #[.int .i64 B,.int .i64 A] 131 rfl;have R:oU Y.heap.size Y (Y.alloc (.cells #[.int .i64 B,.int .i64 A] 131)):=aH (pU _ _) _;have bz:=y6.keep R;have mz:=my.keep R;have x8:=aG y4 R;have d4:=mz.lt
   go_upto_region 9 with fail
   clear y6 my y4 R;generalize Y.heap.size=ub at*;generalize tN _ _=wt at*;cases r
   ·have HZ:Hid (aP 5 (l.take (k+1))=aP 5 (l.take k)):=a0.out rfl;go_wp2_with fail;go_roundw
    case rel=>exact⟨k+1,M,by omega,by go_num,mz,(by rw[HZ.out];exact U.out),by omega,x8⟩
    case measure=>simp[intOf];omega
   ·have HZ:Hid (aP 5 (l.take (k+1))=aP 5 (l.take k)++[((B,A),D)]):=by show _=_;rw[z7.out rfl,HM.out]
    have x7:thOk (B,A):=by have:=a2.out;rw[HM.out]at this;exact this
    have x2:=HA.out (k+1);rw[HZ.out,cV]at x2;obtain⟨st,o1,o2,M',e1,e2,e3,v8,x6,d5⟩:=bG.enter (mz.move (w1:=wt.drew) rfl) j6 fQ iL x7 (aK M (B,A)+D)
    change (xV _ _ (.int .i64 (st:Int)) _).run _ _=_ at e3
    have e0:=bG.look (mz.move (w1:=wt.drew) rfl) j6 fQ iL x7;obtain⟨y0,y1,y2⟩:=bz.three;obtain⟨t0,t1,_,_⟩:=w4.two;have z3: -4611686018427387904<=aK M (B,A)+D/\aK M (B,A)+D<=4611686018427387904:=by
     have h1:=iT (aP 5 (l.take k)) (B,A);rw[<- U.out]at h1;simp only[aJ]at x2;have:=eN (aP 5 (l.take k));omega
    have HN:Hid (∀s,aK M' s=aK (aP 5 (l.take (k+1))) s):=fun s=>by
     rw[x6,HZ.out,eG]
     by_cases e:(B,A)=s
     ·rw[if_pos e,if_pos e,<-U.out,e]
     ·rw[if_neg e,if_neg e,U.out];omega
    clear x6 x2;obtain⟨b0,a9⟩:=z3;generalize hT:aK M (B,A)=T at*;have d7:Hid (aK M (B,A)=T):=hT;clear hT;have iw:tM.wrap (T+D)=T+D:=by rw[tL];omega
    go_upto_region 10 with fail
    go_region
    clear e0 e1 e2 e3;have x0:oU w1.heap.size w1 (setBlock wt.drew w1.heap.size o2):=eR x8.drew (AP _);generalize setBlock wt.drew w1.heap.size o2=w7 at*;go_wp2_with fail;go_roundw
    case rel=>exact⟨k+1,M',by omega,by go_num,v8,HN.out,by omega,x0⟩
    case measure=>simp[intOf];omega
  ·obtain rfl:k=l.length:=by omega
   have w6:Hid (∀s,aK M s=aK (aP 5 l) s):=fun s=>by rw[U.out,sD]
   have y3:=aG O S;have z4:=y3.size;clear U;go_wp2_with fail;refine (kV w1.heap.size wr J (by omega) w6.out).mono ?_;rintro e w8 ⟨o8,rfl,Z,v6⟩;have O8:Hid (aQ w8 wr.heap.size o8 (aO bJ (aP 5 l))):=Z;clear Z;go_wp2_with fail;go_ret;refine⟨_,rfl,?_,aG y3 v6⟩;rw[HF.out];exact cW O8.out z4
theorem Ci (w:nA):nB fM 171 #[.int .i64 6] w fun e a=>e=.returned (.tuple #[.func (.func 220) #[] #[],.bool true])/\oU w.heap.size w a:=by
 go_enter iM,gX;go_wp2_with fail;refine mO (by simp[results,gQ,go_sem];try rfl) rfl ?_;exact⟨rfl,aH (pU _ _) _⟩
theorem Dr (v:nX)(l:List It)(w:nA)(h:Is w v l):
  nB fM 144 #[v,.int .i64 6] w fun e w'=>∃o:nX,e=.returned o/\aQ w' w.heap.size o (eU l 6)/\oU w.heap.size w w':=by
 cases G:aX l
 ·have HF:Hid (eU l 6=[]):=oR G;go_enter gM,gD;go_wp2_with fail;refine (Ci _).mono ?_;rintro e w1 ⟨rfl,I⟩;go_wp2_with fail;refine (cH G (h.keep I)).mono ?_;rintro e w2 ⟨rfl,x0⟩;go_wp2_with fail;go_ret;refine⟨_,rfl,?_,aG I x0⟩;rw[HF.out];exact oN _ _ _ _ _
 have HF:Hid (eU l 6=aO bJ (aP 6 l)):=lZ G (by decide);have hl:=dF G;have HK:Hid (∀(k:Nat)(s:Int×Int)(d:Int),l[k]?=some (s,d)->jK s):=fun k s d hr=>mN G _ (qV hr);have HA:Hid (∀k:Nat,aJ (aP 6 (l.take k))<=439804651110400):=fun k=>by have h1:=mT 6 (l.take k);have h2:=kM G k;omega
 have v3:=@oW fM;go_enter gM,gD;go_wp2_with fail;refine (Ci _).mono ?_;rintro e w0 ⟨rfl,x1⟩;go_wp2_with fail;refine (cH G (h.keep x1)).mono ?_;rintro e w1 ⟨rfl,I⟩;have O:=aG x1 I;have d3:=O.size;obtain⟨a,d9,rfl,hc,hm,hn,H⟩:=Is.open (h.keep O);unfold maxLen at hm;have HC:=(show Hid _ from H);clear H h G x1 I;have m0:bG gC thOk (w1.alloc (.map #[] 0)) w1.heap.size []:=bG.new w1 rfl;have y5:oU w1.heap.size w1 (w1.alloc (.map #[] 0)):=aH (pU _ _) _;go_wp2_with fail;clear v3
 go_loopw [27] (fun i wr=>∃(k:Nat)(M:List It),k<=l.length/\i=.int .i64 k/\bG gC thOk wr w1.heap.size M/\(∀s,aK M s=aK (aP 6 (l.take k)) s)/\M.length<=k/\oU w1.heap.size w1 wr) (fun i _=>l.length-(intOf i).toNat)
 case atStart=>exact⟨0,[],by omega,rfl,m0,fun s=>by simp[aP],by simp,y5⟩
 case round=>
  clear m0 y5;obtain⟨k,M,d6,rfl,J,h9,d8,S⟩:=hrel;have U:=(show Hid _ from h9);clear h9
  by_cases v4:k<l.length
  ·obtain⟨g,off,K,V,D,rfl,hg,hr,c0,c1,c2⟩:=HC.out k v4;have v5:=HK.out k _ _ hr;have d0:=cB S c0;have d1:=cB S c1;have d2:=cB S c2;have HR:=(show Hid _ from hr);have ik:((k:Int)<(l.length:Int)):=by omega
   have bx:=Bk.new (w:=wr) #[.int .i64 K,.int .i64 V,.int .i64 D] 98 rfl;have L:oU wr.heap.size wr (wr.alloc (.cells #[.int .i64 K,.int .i64 V,.int .i64 D] 98)):=aH (pU _ _) _;have x9:=aG S L;have mx:=J.keep L;obtain⟨i1,i2,i3,i4⟩:=v5;have a2:Hid (thOk (bC 6 (K,V))):=rW (uS ⟨i1,i2,i3,i4⟩);simp only at i1 i2 i3 i4;clear c0 c1 c2 hr J L S
   go_upto_region 8 with fail
   clear d0 d1 d2;generalize wr.heap.size=tb at*;generalize tN _ _=wx at*;obtain⟨q0,q1,q2⟩:=bx.three;go_wp2_with fail;refine (GH K V _ i1 i2 i3 i4).mono ?_;rintro e Y ⟨rfl,Q⟩;have y6:=bx.keep Q
   have my:=mx.keep Q
   have y4:=aG x9 Q
   have HM:Hid (bC 6 (K,V)=((bC 6 (K,V)).1,(bC 6 (K,V)).2)):=rfl;have z7:Hid (cR 6 (K,V)=true->aP 6 (l.take (k+1))=aP 6 (l.take k)++[(bC 6 (K,V),D)]):=fun hp=>mS HR.out hp;have a0:Hid (cR 6 (K,V)=false->aP 6 (l.take (k+1))=aP 6 (l.take k)):=fun hp=>oQ HR.out hp;clear q0 q1 q2 bx mx x9 Q
   generalize (bC 6 (K,V)).1=B at*;generalize (bC 6 (K,V)).2=A at*;generalize hP:cR 6 (K,V)=r at*;clear hP;have w4:=Bk.new (w:=Y) #[.int .i64 B,.int .i64 A] 131 rfl;have R:oU Y.heap.size Y (Y.alloc (.cells #[.int .i64 B,.int .i64 A] 131)):=aH (pU _ _) _;have bz:=y6.keep R;have mz:=my.keep R;have x8:=aG y4 R;have d4:=mz.lt
   go_upto_region 9 with fail
   clear y6 my y4 R;generalize Y.heap.size=ub at*;generalize tN _ _=wt at*;cases r
   ·have HZ:Hid (aP 6 (l.take (k+1))=aP 6 (l.take k)):=a0.out rfl;go_wp2_with fail;go_roundw
    case rel=>exact⟨k+1,M,by omega,by go_num,mz,(by rw[HZ.out];exact U.out),by omega,x8⟩
    case measure=>simp[intOf];omega
   ·have HZ:Hid (aP 6 (l.take (k+1))=aP 6 (l.take k)++[((B,A),D)]):=by show _=_;rw[z7.out rfl,HM.out]
    have x7:thOk (B,A):=by have:=a2.out;rw[HM.out]at this;exact this
    have x2:=HA.out (k+1);rw[HZ.out,cV]at x2;obtain⟨st,o1,o2,M',e1,e2,e3,v8,x6,d5⟩:=bG.enter (mz.move (w1:=wt.drew) rfl) j6 fQ iL x7 (aK M (B,A)+D)
    change (xV _ _ (.int .i64 (st:Int)) _).run _ _=_ at e3
    have e0:=bG.look (mz.move (w1:=wt.drew) rfl) j6 fQ iL x7;obtain⟨y0,y1,y2⟩:=bz.three;obtain⟨t0,t1,_,_⟩:=w4.two;have z3: -4611686018427387904<=aK M (B,A)+D/\aK M (B,A)+D<=4611686018427387904:=by
     have h1:=iT (aP 6 (l.take k)) (B,A);rw[<- U.out]at h1;simp only[aJ]at x2;have:=eN (aP 6 (l.take k));omega
    have HN:Hid (∀s,aK M' s=aK (aP 6 (l.take (k+1))) s):=fun s=>by
     rw[x6,HZ.out,eG]
     by_cases e:(B,A)=s
     ·rw[if_pos e,if_pos e,<-U.out,e]
     ·rw[if_neg e,if_neg e,U.out];omega
    clear x6 x2;obtain⟨b0,a9⟩:=z3;generalize hT:aK M (B,A)=T at*;have d7:Hid (aK M (B,A)=T):=hT;clear hT;have iw:tM.wrap (T+D)=T+D:=by rw[tL];omega
    go_upto_region 10 with fail
    go_region
    clear e0 e1 e2 e3;have x0:oU w1.heap.size w1 (setBlock wt.drew w1.heap.size o2):=eR x8.drew (AP _);generalize setBlock wt.drew w1.heap.size o2=w7 at*;go_wp2_with fail;go_roundw
    case rel=>exact⟨k+1,M',by omega,by go_num,v8,HN.out,by omega,x0⟩
    case measure=>simp[intOf];omega
  ·obtain rfl:k=l.length:=by omega
   have w6:Hid (∀s,aK M s=aK (aP 6 l) s):=fun s=>by rw[U.out,sD]
   have y3:=aG O S;have z4:=y3.size;clear U;go_wp2_with fail;refine (kV w1.heap.size wr J (by omega) w6.out).mono ?_;rintro e w8 ⟨o8,rfl,Z,v6⟩;have O8:Hid (aQ w8 wr.heap.size o8 (aO bJ (aP 6 l))):=Z;clear Z;go_wp2_with fail;go_ret;refine⟨_,rfl,?_,aG y3 v6⟩;rw[HF.out];exact cW O8.out z4
theorem Cj (w:nA):nB fM 171 #[.int .i64 7] w fun e a=>e=.returned (.tuple #[.func (.func 221) #[] #[],.bool true])/\oU w.heap.size w a:=by
 go_enter iM,gX;go_wp2_with fail;refine mO (by simp[results,gQ,go_sem];try rfl) rfl ?_;exact⟨rfl,aH (pU _ _) _⟩
theorem Ds (v:nX)(l:List It)(w:nA)(h:Is w v l):
  nB fM 144 #[v,.int .i64 7] w fun e w'=>∃o:nX,e=.returned o/\aQ w' w.heap.size o (eU l 7)/\oU w.heap.size w w':=by
 cases G:aX l
 ·have HF:Hid (eU l 7=[]):=oR G;go_enter gM,gD;go_wp2_with fail;refine (Cj _).mono ?_;rintro e w1 ⟨rfl,I⟩;go_wp2_with fail;refine (cH G (h.keep I)).mono ?_;rintro e w2 ⟨rfl,x0⟩;go_wp2_with fail;go_ret;refine⟨_,rfl,?_,aG I x0⟩;rw[HF.out];exact oN _ _ _ _ _
 have HF:Hid (eU l 7=aO bJ (aP 7 l)):=lZ G (by decide);have hl:=dF G;have HK:Hid (∀(k:Nat)(s:Int×Int)(d:Int),l[k]?=some (s,d)->jK s):=fun k s d hr=>mN G _ (qV hr);have HA:Hid (∀k:Nat,aJ (aP 7 (l.take k))<=439804651110400):=fun k=>by have h1:=mT 7 (l.take k);have h2:=kM G k;omega
 have v3:=@oW fM;go_enter gM,gD;go_wp2_with fail;refine (Cj _).mono ?_;rintro e w0 ⟨rfl,x1⟩;go_wp2_with fail;refine (cH G (h.keep x1)).mono ?_;rintro e w1 ⟨rfl,I⟩;have O:=aG x1 I;have d3:=O.size;obtain⟨a,d9,rfl,hc,hm,hn,H⟩:=Is.open (h.keep O);unfold maxLen at hm;have HC:=(show Hid _ from H);clear H h G x1 I;have m0:bG gC thOk (w1.alloc (.map #[] 0)) w1.heap.size []:=bG.new w1 rfl;have y5:oU w1.heap.size w1 (w1.alloc (.map #[] 0)):=aH (pU _ _) _;go_wp2_with fail;clear v3
 go_loopw [27] (fun i wr=>∃(k:Nat)(M:List It),k<=l.length/\i=.int .i64 k/\bG gC thOk wr w1.heap.size M/\(∀s,aK M s=aK (aP 7 (l.take k)) s)/\M.length<=k/\oU w1.heap.size w1 wr) (fun i _=>l.length-(intOf i).toNat)
 case atStart=>exact⟨0,[],by omega,rfl,m0,fun s=>by simp[aP],by simp,y5⟩
 case round=>
  clear m0 y5;obtain⟨k,M,d6,rfl,J,h9,d8,S⟩:=hrel;have U:=(show Hid _ from h9);clear h9
  by_cases v4:k<l.length
  ·obtain⟨g,off,K,V,D,rfl,hg,hr,c0,c1,c2⟩:=HC.out k v4;have v5:=HK.out k _ _ hr;have d0:=cB S c0;have d1:=cB S c1;have d2:=cB S c2;have HR:=(show Hid _ from hr);have ik:((k:Int)<(l.length:Int)):=by omega
   have bx:=Bk.new (w:=wr) #[.int .i64 K,.int .i64 V,.int .i64 D] 98 rfl;have L:oU wr.heap.size wr (wr.alloc (.cells #[.int .i64 K,.int .i64 V,.int .i64 D] 98)):=aH (pU _ _) _;have x9:=aG S L;have mx:=J.keep L;obtain⟨i1,i2,i3,i4⟩:=v5;have a2:Hid (thOk (bC 7 (K,V))):=rW (uS ⟨i1,i2,i3,i4⟩);simp only at i1 i2 i3 i4;clear c0 c1 c2 hr J L S
   go_upto_region 8 with fail
   clear d0 d1 d2;generalize wr.heap.size=tb at*;generalize tN _ _=wx at*;obtain⟨q0,q1,q2⟩:=bx.three;go_wp2_with fail;refine (GI K V _ i1 i2 i3 i4).mono ?_;rintro e Y ⟨rfl,Q⟩;have y6:=bx.keep Q
   have my:=mx.keep Q
   have y4:=aG x9 Q
   have HM:Hid (bC 7 (K,V)=((bC 7 (K,V)).1,(bC 7 (K,V)).2)):=rfl;have z7:Hid (cR 7 (K,V)=true->aP 7 (l.take (k+1))=aP 7 (l.take k)++[(bC 7 (K,V),D)]):=fun hp=>mS HR.out hp;have a0:Hid (cR 7 (K,V)=false->aP 7 (l.take (k+1))=aP 7 (l.take k)):=fun hp=>oQ HR.out hp;clear q0 q1 q2 bx mx x9 Q
   generalize (bC 7 (K,V)).1=B at*;generalize (bC 7 (K,V)).2=A at*;generalize hP:cR 7 (K,V)=r at*;clear hP;have w4:=Bk.new (w:=Y) #[.int .i64 B,.int .i64 A] 131 rfl;have R:oU Y.heap.size Y (Y.alloc (.cells #[.int .i64 B,.int .i64 A] 131)):=aH (pU _ _) _;have bz:=y6.keep R;have mz:=my.keep R;have x8:=aG y4 R;have d4:=mz.lt
   go_upto_region 9 with fail
   clear y6 my y4 R;generalize Y.heap.size=ub at*;generalize tN _ _=wt at*;cases r
   ·have HZ:Hid (aP 7 (l.take (k+1))=aP 7 (l.take k)):=a0.out rfl;go_wp2_with fail;go_roundw
    case rel=>exact⟨k+1,M,by omega,by go_num,mz,(by rw[HZ.out];exact U.out),by omega,x8⟩
    case measure=>simp[intOf];omega
   ·have HZ:Hid (aP 7 (l.take (k+1))=aP 7 (l.take k)++[((B,A),D)]):=by show _=_;rw[z7.out rfl,HM.out]
    have x7:thOk (B,A):=by have:=a2.out;rw[HM.out]at this;exact this
    have x2:=HA.out (k+1);rw[HZ.out,cV]at x2;obtain⟨st,o1,o2,M',e1,e2,e3,v8,x6,d5⟩:=bG.enter (mz.move (w1:=wt.drew) rfl) j6 fQ iL x7 (aK M (B,A)+D)
    change (xV _ _ (.int .i64 (st:Int)) _).run _ _=_ at e3
    have e0:=bG.look (mz.move (w1:=wt.drew) rfl) j6 fQ iL x7;obtain⟨y0,y1,y2⟩:=bz.three;obtain⟨t0,t1,_,_⟩:=w4.two;have z3: -4611686018427387904<=aK M (B,A)+D/\aK M (B,A)+D<=4611686018427387904:=by
     have h1:=iT (aP 7 (l.take k)) (B,A);rw[<- U.out]at h1;simp only[aJ]at x2;have:=eN (aP 7 (l.take k));omega
    have HN:Hid (∀s,aK M' s=aK (aP 7 (l.take (k+1))) s):=fun s=>by
     rw[x6,HZ.out,eG]
     by_cases e:(B,A)=s
     ·rw[if_pos e,if_pos e,<-U.out,e]
     ·rw[if_neg e,if_neg e,U.out];omega
    clear x6 x2;obtain⟨b0,a9⟩:=z3;generalize hT:aK M (B,A)=T at*;have d7:Hid (aK M (B,A)=T):=hT;clear hT;have iw:tM.wrap (T+D)=T+D:=by rw[tL];omega
    go_upto_region 10 with fail
    go_region
    clear e0 e1 e2 e3;have x0:oU w1.heap.size w1 (setBlock wt.drew w1.heap.size o2):=eR x8.drew (AP _);generalize setBlock wt.drew w1.heap.size o2=w7 at*;go_wp2_with fail;go_roundw
    case rel=>exact⟨k+1,M',by omega,by go_num,v8,HN.out,by omega,x0⟩
    case measure=>simp[intOf];omega
  ·obtain rfl:k=l.length:=by omega
   have w6:Hid (∀s,aK M s=aK (aP 7 l) s):=fun s=>by rw[U.out,sD]
   have y3:=aG O S;have z4:=y3.size;clear U;go_wp2_with fail;refine (kV w1.heap.size wr J (by omega) w6.out).mono ?_;rintro e w8 ⟨o8,rfl,Z,v6⟩;have O8:Hid (aQ w8 wr.heap.size o8 (aO bJ (aP 7 l))):=Z;clear Z;go_wp2_with fail;go_ret;refine⟨_,rfl,?_,aG y3 v6⟩;rw[HF.out];exact cW O8.out z4
theorem Ni (how:Int)(h:how<1\/8<=how)(w:nA):nB fM 171 #[.int .i64 how] w fun e a=>(∃z,e=.returned (.tuple #[z,.bool false]))/\oU w.heap.size w a:=by
 by_cases h1:how<1
 ·go_enter iM,gX;go_wp2_with fail;refine mO (by simp[results,gQ,go_sem];try rfl) rfl ?_;exact⟨⟨_,rfl⟩,aH (pU _ _) _⟩
 ·have h2:8<=how:=by omega
  go_enter iM,gX;go_wp2_with fail;refine mO (by simp[results,gQ,go_sem];try rfl) rfl ?_;exact⟨⟨_,rfl⟩,aH (pU _ _) _⟩
theorem BC (v:nX)(l:List It)(how:Int)(w:nA)(h:Is w v l):
  nB fM 144 #[v,.int .i64 how] w fun e a=>∃o:nX,e=.returned o/\aQ a w.heap.size o (eU l how)/\oU w.heap.size w a:=by
 by_cases s:how<1\/8<=how
 ·have HF:Hid (eU l how=[]):=Ej (by simp[cG];omega);go_enter gM,gD;go_wp2_with fail;refine (Ni how s _).mono ?_;rintro e w1 ⟨⟨z,rfl⟩,g⟩;go_wp2_with fail;go_ret;refine⟨_,rfl,?_,g⟩;rw[HF.out];exact oN _ _ _ _ _
 ·obtain rfl|rfl|rfl|rfl|rfl|rfl|rfl:how=1\/how=2\/how=3\/how=4\/how=5\/how=6\/how=7:=by omega
  ·exact Dl v l w h
  ·exact Dm v l w h
  ·exact Dn v l w h
  ·exact Dp v l w h
  ·exact Dq v l w h
  ·exact Dr v l w h
  ·exact Ds v l w h
end Go.Proofs.YtbdpcngcbnoioaaGreatDoor
