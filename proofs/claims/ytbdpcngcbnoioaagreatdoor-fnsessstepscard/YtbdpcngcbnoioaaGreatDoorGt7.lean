import Derived.Test.YtbdpcngcbnoioaaGreatDoorGtX
import Derived.Laws.EntriesVeiled
set_option maxHeartbeats 4000000
namespace Go.Proofs.YtbdpcngcbnoioaaGreatDoor
open Go.RowKit
open Go.Proofs.Tryz renaming prog->fD,results228->fH,results171->fV,ntmps228->gY,ntmps171->gZ,func228->iC,func171->jU
open Go renaming bodyPost_ret->kR,World->kX,Calls->lI
open Go.RowKit renaming Below->lY
open Go.RowKit.Below renaming refl->mF
open _root_.Bool renaming eq_iff_iff->mJ
theorem qV {a b c d:Int}{x y:Bool}(h1:a=c)(h2:b=d)(h3:x=y):Ending.returned (.tuple #[.agg #[.int .i64 a,.int .i64 b],.bool x])=.returned (.tuple #[.agg #[.int .i64 c,.int .i64 d],.bool y]):=by rw[h1,h2,h3]
abbrev nC (K V:Int):Obj:= .cells #[.int .i64 K,.int .i64 V] 131
theorem rX (K V:Int)(w:kX):Bk ((w.alloc (nC K V)).alloc (nC 0 0)) w.heap.size #[.int .i64 K,.int .i64 V] 131/\Bk ((w.alloc (nC K V)).alloc (nC 0 0)) (w.heap.size+1) #[.int .i64 0,.int .i64 0] 131/\lY w.heap.size w ((w.alloc (nC K V)).alloc (nC 0 0)):=
 ⟨(Bk.new _ _ rfl).alloc _,Bk.new _ _ (by simp),aG (aG (mF _ _) _) _⟩
theorem L7 (K V:Int)(w:kX)(B:0<=K)(A:K<=3)(s:0<=V)(g:V<=99):
  lI fD 215 #[.agg #[.int .i64 K,.int .i64 V]] w fun e D=>e=.returned (.tuple #[.agg #[.int .i64 (cR 1 (K,V)).1,.int .i64 (cR 1 (K,V)).2],.bool (eR 1 (K,V))])/\lY w.heap.size w D:=by
 have _u:(0<=K/\K<=3)/\(0<=V/\V<=99):=⟨⟨B,A⟩,⟨s,g⟩⟩;obtain⟨G,a,F⟩:=rX K V w;obtain⟨i0,M,_,_⟩:=G.two;obtain⟨J,I,O,N⟩:=a.two;have L:w.heap.size≠w.heap.size+1:=by omega
 go_enter Tryz.func215,Tryz.ntmps215
 go_upto_region 1 with fail
 generalize ((w.alloc (nC K V)).alloc (nC 0 0))=H at*;go_wp2_with fail;refine kR (by simp[results,Tryz.results215,go_sem,kM a,kK a];try rfl) rfl ?_;refine⟨qV ?_ ?_ ?_,(F.setCell (by simp) _).setCell (by simp) _⟩
 all_goals simp only[cR,eR]
 all_goals (simp<;>omega)
theorem LC (K V:Int)(w:kX)(M:0<=K)(L:K<=3)(J:0<=V)(I:V<=99):
  lI fD 216 #[.agg #[.int .i64 K,.int .i64 V]] w fun e w'=>e=.returned (.tuple #[.agg #[.int .i64 (cR 2 (K,V)).1,.int .i64 (cR 2 (K,V)).2],.bool (eR 2 (K,V))])/\lY w.heap.size w w':=by
 have _u:(0<=K/\K<=3)/\(0<=V/\V<=99):=⟨⟨M,L⟩,⟨J,I⟩⟩;obtain⟨D,U,Q⟩:=rX K V w;obtain⟨i0,H,_,_⟩:=D.two;obtain⟨G,F,T,S⟩:=U.two;have ne:w.heap.size≠w.heap.size+1:=by omega
 go_enter Tryz.func216,Tryz.ntmps216
 go_upto_region 1 with fail
 generalize ((w.alloc (nC K V)).alloc (nC 0 0))=g at*;have iw:IntKind.i64.wrap (V+1)=V+1:=by rw[IntKind.wrap_i64];omega
 have A:Hid (∀W,lY g.heap.size g W->W.cell? ⟨w.heap.size,0,none⟩=some (.int .i64 K)/\W.cell? ⟨w.heap.size,1,none⟩=some (.int .i64 V)):=fun W R=>⟨(D.keep R).two.1,(D.keep R).two.2.1⟩;have s:lY g.heap.size g g.drew:=(mF _ _).drew;clear i0 H G F T S;obtain⟨i0,H⟩:=A.out _ s
 go_region_held3 (fun W=>W.cell? ⟨w.heap.size,0,none⟩=some (.int .i64 K)/\W.cell? ⟨w.heap.size,1,none⟩=some (.int .i64 V))
  (first|exact A.out _ s|exact A.out _ a|exact⟨kW (kW (A.out _ a).1 (by simp)) (by simp),kW (kW (A.out _ a).2 (by simp)) (by simp)⟩)
  (first
   | (go_at_call 235;refine (nM (V+1) _).mono ?_;rintro e wa ⟨rfl,O⟩;have a:=aH s O;have B:=U.keep a;obtain⟨G,F,T,S⟩:=B.two))
 have bo:=B.ag (.int .i64 K) (.int .i64 ((V+1)%100));have N:lY w.heap.size w ((wa.setCell ⟨w.heap.size+1,0,none⟩ (.int .i64 K)).setCell ⟨w.heap.size+1,1,none⟩ (.int .i64 ((V+1)%100))):=((Q.trans (a.mono Q.size)).setCell (by simp) _).setCell (by simp) _;obtain⟨Z,Y,_,_⟩:=bo.two;go_wp2_with fail;refine kR (v:= .tuple #[.agg #[.int .i64 K,.int .i64 ((V+1)%100)],.bool true]) (by simp[results,Tryz.results216,go_sem,Z,Y]) rfl ?_;exact⟨rfl,N⟩
theorem Kg (K V:Int)(w:kX)(B:0<=K)(A:K<=3)(s:0<=V)(g:V<=99):
  lI fD 217 #[.agg #[.int .i64 K,.int .i64 V]] w fun e D=>e=.returned (.tuple #[.agg #[.int .i64 (cR 3 (K,V)).1,.int .i64 (cR 3 (K,V)).2],.bool (eR 3 (K,V))])/\lY w.heap.size w D:=by
 have _u:(0<=K/\K<=3)/\(0<=V/\V<=99):=⟨⟨B,A⟩,⟨s,g⟩⟩;obtain⟨G,a,F⟩:=rX K V w;obtain⟨i0,M,_,_⟩:=G.two;obtain⟨J,I,O,N⟩:=a.two;have L:w.heap.size≠w.heap.size+1:=by omega
 go_enter Tryz.func217,Tryz.ntmps217
 go_upto_region 1 with fail
 generalize ((w.alloc (nC K V)).alloc (nC 0 0))=H at*;go_wp2_with fail;refine kR (by simp[results,Tryz.results217,go_sem,kM a,kK a];try rfl) rfl ?_;refine⟨qV ?_ ?_ ?_,(F.setCell (by simp) _).setCell (by simp) _⟩
 all_goals simp only[cR,eR]
 all_goals (simp<;>omega)
theorem KZ (K V:Int)(w:kX)(B:0<=K)(A:K<=3)(s:0<=V)(g:V<=99):
  lI fD 218 #[.agg #[.int .i64 K,.int .i64 V]] w fun e D=>e=.returned (.tuple #[.agg #[.int .i64 (cR 4 (K,V)).1,.int .i64 (cR 4 (K,V)).2],.bool (eR 4 (K,V))])/\lY w.heap.size w D:=by
 have _u:(0<=K/\K<=3)/\(0<=V/\V<=99):=⟨⟨B,A⟩,⟨s,g⟩⟩;obtain⟨G,a,F⟩:=rX K V w;obtain⟨i0,M,_,_⟩:=G.two;obtain⟨J,I,O,N⟩:=a.two;have L:w.heap.size≠w.heap.size+1:=by omega
 go_enter Tryz.func218,Tryz.ntmps218
 go_upto_region 1 with fail
 generalize ((w.alloc (nC K V)).alloc (nC 0 0))=H at*;go_wp2_with fail;refine kR (by simp[results,Tryz.results218,go_sem,kM a,kK a];try rfl) rfl ?_;refine⟨qV ?_ ?_ ?_,(F.setCell (by simp) _).setCell (by simp) _⟩
 all_goals simp only[cR,eR]
 all_goals (simp<;>omega)
theorem Kb (K V:Int)(w:kX)(A:0<=K)(s:K<=3)(g:0<=V)(a:V<=99):
  lI fD 219 #[.agg #[.int .i64 K,.int .i64 V]] w fun e I=>e=.returned (.tuple #[.agg #[.int .i64 (cR 5 (K,V)).1,.int .i64 (cR 5 (K,V)).2],.bool (eR 5 (K,V))])/\lY w.heap.size w I:=by
 have _u:(0<=K/\K<=3)/\(0<=V/\V<=99):=⟨⟨A,s⟩,⟨g,a⟩⟩;obtain⟨M,D,J⟩:=rX K V w;obtain⟨i0,R,_,_⟩:=M.two;obtain⟨O,N,T,S⟩:=D.two;have Q:w.heap.size≠w.heap.size+1:=by omega
 go_enter Tryz.func219,Tryz.ntmps219
 go_upto_region 1 with fail
 generalize ((w.alloc (nC K V)).alloc (nC 0 0))=H at*
 go_region
 have L:=(D.ag (.int .i64 K) (.int .i64 V)).drew;have B:lY w.heap.size w ((H.setCell ⟨w.heap.size+1,0,none⟩ (.int .i64 K)).setCell ⟨w.heap.size+1,1,none⟩ (.int .i64 V)).drew:=((J.setCell (by simp) _).setCell (by simp) _).drew;obtain⟨G,F,_,_⟩:=L.two;go_wp2_with fail;refine kR (v:= .tuple #[.agg #[.int .i64 K,.int .i64 V],.bool (V%2==0)]) (by simp[results,Tryz.results219,go_sem,G,F]) rfl ?_;refine⟨qV (by simp[cR]) (by simp[cR]) ?_,B⟩;simp[eR]<;>(rw[mJ];simp)
theorem KU (K V:Int)(w:kX)(A:0<=K)(s:K<=3)(g:0<=V)(a:V<=99):
  lI fD 220 #[.agg #[.int .i64 K,.int .i64 V]] w fun e I=>e=.returned (.tuple #[.agg #[.int .i64 (cR 6 (K,V)).1,.int .i64 (cR 6 (K,V)).2],.bool (eR 6 (K,V))])/\lY w.heap.size w I:=by
 have _u:(0<=K/\K<=3)/\(0<=V/\V<=99):=⟨⟨A,s⟩,⟨g,a⟩⟩;obtain⟨M,D,J⟩:=rX K V w;obtain⟨i0,R,_,_⟩:=M.two;obtain⟨O,N,T,S⟩:=D.two;have Q:w.heap.size≠w.heap.size+1:=by omega
 go_enter Tryz.func220,Tryz.ntmps220
 go_upto_region 1 with fail
 generalize ((w.alloc (nC K V)).alloc (nC 0 0))=H at*
 go_region
 have L:=(D.ag (.int .i64 K) (.int .i64 V)).drew;have B:lY w.heap.size w ((H.setCell ⟨w.heap.size+1,0,none⟩ (.int .i64 K)).setCell ⟨w.heap.size+1,1,none⟩ (.int .i64 V)).drew:=((J.setCell (by simp) _).setCell (by simp) _).drew;obtain⟨G,F,_,_⟩:=L.two;go_wp2_with fail;refine kR (v:= .tuple #[.agg #[.int .i64 K,.int .i64 V],.bool (K%2==0)]) (by simp[results,Tryz.results220,go_sem,G,F]) rfl ?_;refine⟨qV (by simp[cR]) (by simp[cR]) ?_,B⟩;simp[eR]<;>(rw[mJ];simp)
theorem K8 (K V:Int)(w:kX)(A:0<=K)(s:K<=3)(g:0<=V)(a:V<=99):
  lI fD 221 #[.agg #[.int .i64 K,.int .i64 V]] w fun e I=>e=.returned (.tuple #[.agg #[.int .i64 (cR 7 (K,V)).1,.int .i64 (cR 7 (K,V)).2],.bool (eR 7 (K,V))])/\lY w.heap.size w I:=by
 have _u:(0<=K/\K<=3)/\(0<=V/\V<=99):=⟨⟨A,s⟩,⟨g,a⟩⟩;obtain⟨M,D,J⟩:=rX K V w;obtain⟨i0,R,_,_⟩:=M.two;obtain⟨O,N,T,S⟩:=D.two;have Q:w.heap.size≠w.heap.size+1:=by omega
 go_enter Tryz.func221,Tryz.ntmps221
 go_upto_region 1 with fail
 generalize ((w.alloc (nC K V)).alloc (nC 0 0))=H at*
 go_region
 have L:=(D.ag (.int .i64 K) (.int .i64 V)).drew;have B:lY w.heap.size w ((H.setCell ⟨w.heap.size+1,0,none⟩ (.int .i64 K)).setCell ⟨w.heap.size+1,1,none⟩ (.int .i64 V)).drew:=((J.setCell (by simp) _).setCell (by simp) _).drew;obtain⟨G,F,_,_⟩:=L.two;go_wp2_with fail;refine kR (v:= .tuple #[.agg #[.int .i64 K,.int .i64 V],.bool (decide (V<10))]) (by simp[results,Tryz.results221,go_sem,G,F]) rfl ?_;refine⟨qV (by simp[cR]) (by simp[cR]) ?_,B⟩;simp[eR]<;>(rw[mJ];simp)
theorem oS {a b c d:Int}{x y:Bool}(h1:a=c)(h2:b=d)(h3:x=y):Ending.returned (.tuple #[.int .i64 a,.int .i64 b,.bool x])=.returned (.tuple #[.int .i64 c,.int .i64 d,.bool y]):=by rw[h1,h2,h3]
theorem Mg (K V:Int)(w:kX)(A:0<=K)(s:K<=3)(g:0<=V)(a:V<=99):
  lI fD 228 #[.int .i64 K,.int .i64 V,.int .i64 1] w fun e B=>e=.returned (.tuple #[.int .i64 (cR 1 (K,V)).1,.int .i64 (cR 1 (K,V)).2,.bool (eR 1 (K,V))])/\lY w.heap.size w B:=by
 have _u:(0<=K/\K<=3)/\(0<=V/\V<=99):=⟨⟨A,s⟩,⟨g,a⟩⟩;go_enter iC,gY;go_wp2_with fail;refine kR (by simp[results,fH,go_sem];try rfl) rfl ?_;refine⟨oS ?_ ?_ ?_,mF _ _⟩
 all_goals simp only[cR,eR]
 all_goals first|(simp;done)|(simp;omega)|(rw[mJ];simp)
theorem M7 (K V:Int)(w:kX)(A:0<=K)(s:K<=3)(g:0<=V)(a:V<=99):
  lI fD 228 #[.int .i64 K,.int .i64 V,.int .i64 2] w fun e B=>e=.returned (.tuple #[.int .i64 (cR 2 (K,V)).1,.int .i64 (cR 2 (K,V)).2,.bool (eR 2 (K,V))])/\lY w.heap.size w B:=by
 have _u:(0<=K/\K<=3)/\(0<=V/\V<=99):=⟨⟨A,s⟩,⟨g,a⟩⟩;go_enter iC,gY;go_wp2_with fail;refine kR (by simp[results,fH,go_sem];try rfl) rfl ?_;refine⟨oS ?_ ?_ ?_,mF _ _⟩
 all_goals simp only[cR,eR]
 all_goals first|(simp;done)|(simp;omega)|(rw[mJ];simp)
theorem Mr (K V:Int)(w:kX)(A:0<=K)(s:K<=3)(g:0<=V)(a:V<=99):
  lI fD 228 #[.int .i64 K,.int .i64 V,.int .i64 3] w fun e B=>e=.returned (.tuple #[.int .i64 (cR 3 (K,V)).1,.int .i64 (cR 3 (K,V)).2,.bool (eR 3 (K,V))])/\lY w.heap.size w B:=by
 have _u:(0<=K/\K<=3)/\(0<=V/\V<=99):=⟨⟨A,s⟩,⟨g,a⟩⟩;go_enter iC,gY;go_wp2_with fail;refine kR (by simp[results,fH,go_sem];try rfl) rfl ?_;refine⟨oS ?_ ?_ ?_,mF _ _⟩
 all_goals simp only[cR,eR]
 all_goals first|(simp;done)|(simp;omega)|(rw[mJ];simp)
theorem ME (K V:Int)(w:kX)(A:0<=K)(s:K<=3)(g:0<=V)(a:V<=99):
  lI fD 228 #[.int .i64 K,.int .i64 V,.int .i64 4] w fun e B=>e=.returned (.tuple #[.int .i64 (cR 4 (K,V)).1,.int .i64 (cR 4 (K,V)).2,.bool (eR 4 (K,V))])/\lY w.heap.size w B:=by
 have _u:(0<=K/\K<=3)/\(0<=V/\V<=99):=⟨⟨A,s⟩,⟨g,a⟩⟩;go_enter iC,gY;go_wp2_with fail;refine kR (by simp[results,fH,go_sem];try rfl) rfl ?_;refine⟨oS ?_ ?_ ?_,mF _ _⟩
 all_goals simp only[cR,eR]
 all_goals first|(simp;done)|(simp;omega)|(rw[mJ];simp)
theorem MD (K V:Int)(w:kX)(A:0<=K)(s:K<=3)(g:0<=V)(a:V<=99):
  lI fD 228 #[.int .i64 K,.int .i64 V,.int .i64 5] w fun e B=>e=.returned (.tuple #[.int .i64 (cR 5 (K,V)).1,.int .i64 (cR 5 (K,V)).2,.bool (eR 5 (K,V))])/\lY w.heap.size w B:=by
 have _u:(0<=K/\K<=3)/\(0<=V/\V<=99):=⟨⟨A,s⟩,⟨g,a⟩⟩;go_enter iC,gY;go_wp2_with fail;refine kR (by simp[results,fH,go_sem];try rfl) rfl ?_;refine⟨oS ?_ ?_ ?_,mF _ _⟩
 all_goals simp only[cR,eR]
 all_goals first|(simp;done)|(simp;omega)|(rw[mJ];simp)
theorem Lj (K V:Int)(w:kX)(A:0<=K)(s:K<=3)(g:0<=V)(a:V<=99):
  lI fD 228 #[.int .i64 K,.int .i64 V,.int .i64 6] w fun e B=>e=.returned (.tuple #[.int .i64 (cR 6 (K,V)).1,.int .i64 (cR 6 (K,V)).2,.bool (eR 6 (K,V))])/\lY w.heap.size w B:=by
 have _u:(0<=K/\K<=3)/\(0<=V/\V<=99):=⟨⟨A,s⟩,⟨g,a⟩⟩;go_enter iC,gY;go_wp2_with fail;refine kR (by simp[results,fH,go_sem];try rfl) rfl ?_;refine⟨oS ?_ ?_ ?_,mF _ _⟩
 all_goals simp only[cR,eR]
 all_goals first|(simp;done)|(simp;omega)|(rw[mJ];simp)
theorem Mz (K V:Int)(w:kX)(A:0<=K)(s:K<=3)(g:0<=V)(a:V<=99):
  lI fD 228 #[.int .i64 K,.int .i64 V,.int .i64 7] w fun e B=>e=.returned (.tuple #[.int .i64 (cR 7 (K,V)).1,.int .i64 (cR 7 (K,V)).2,.bool (eR 7 (K,V))])/\lY w.heap.size w B:=by
 have _u:(0<=K/\K<=3)/\(0<=V/\V<=99):=⟨⟨A,s⟩,⟨g,a⟩⟩;go_enter iC,gY;go_wp2_with fail;refine kR (by simp[results,fH,go_sem];try rfl) rfl ?_;refine⟨oS ?_ ?_ ?_,mF _ _⟩
 all_goals simp only[cR,eR]
 all_goals first|(simp;done)|(simp;omega)|(rw[mJ];simp)
theorem Eg {K V a:Int}{r:Bool}(h:eR a (K,V)=r)(s:cH a 1 7=true)(A:mM (K,V))(w:kX):
  lI fD 228 #[.int .i64 K,.int .i64 V,.int .i64 a] w fun e g=>e=.returned (.tuple #[.int .i64 (cR a (K,V)).1,.int .i64 (cR a (K,V)).2,.bool r])/\lY w.heap.size w g:=by
 rw[<- h];obtain⟨h1,h2,h3,h4⟩:=A;simp only[cH,decide_eq_true_eq]at s;obtain rfl|rfl|rfl|rfl|rfl|rfl|rfl:a=1\/a=2\/a=3\/a=4\/a=5\/a=6\/a=7:=by omega
 ·exact Mg K V w h1 h2 h3 h4
 ·exact M7 K V w h1 h2 h3 h4
 ·exact Mr K V w h1 h2 h3 h4
 ·exact ME K V w h1 h2 h3 h4
 ·exact MD K V w h1 h2 h3 h4
 ·exact Lj K V w h1 h2 h3 h4
 ·exact Mz K V w h1 h2 h3 h4
open Go.ChangeMaps (setBlock)
theorem Lu (w:kX):lI fD 171 #[.int .i64 1] w fun e a=>e=.returned (.tuple #[.func (.func 215) #[] #[],.bool true])/\lY w.heap.size w a:=by
 go_enter jU,gZ;go_wp2_with fail;refine kR (by simp[results,fV,go_sem];try rfl) rfl ?_;exact⟨rfl,aG (mF _ _) _⟩
theorem M4 (w:kX):lI fD 171 #[.int .i64 2] w fun e a=>e=.returned (.tuple #[.func (.func 216) #[] #[],.bool true])/\lY w.heap.size w a:=by
 go_enter jU,gZ;go_wp2_with fail;refine kR (by simp[results,fV,go_sem];try rfl) rfl ?_;exact⟨rfl,aG (mF _ _) _⟩
theorem Mo (w:kX):lI fD 171 #[.int .i64 3] w fun e a=>e=.returned (.tuple #[.func (.func 217) #[] #[],.bool true])/\lY w.heap.size w a:=by
 go_enter jU,gZ;go_wp2_with fail;refine kR (by simp[results,fV,go_sem];try rfl) rfl ?_;exact⟨rfl,aG (mF _ _) _⟩
open Go.ChangeMaps (setBlock)
theorem N1 (w:kX):lI fD 171 #[.int .i64 4] w fun e a=>e=.returned (.tuple #[.func (.func 218) #[] #[],.bool true])/\lY w.heap.size w a:=by
 go_enter jU,gZ;go_wp2_with fail;refine kR (by simp[results,fV,go_sem];try rfl) rfl ?_;exact⟨rfl,aG (mF _ _) _⟩
theorem Lo (w:kX):lI fD 171 #[.int .i64 5] w fun e a=>e=.returned (.tuple #[.func (.func 219) #[] #[],.bool true])/\lY w.heap.size w a:=by
 go_enter jU,gZ;go_wp2_with fail;refine kR (by simp[results,fV,go_sem];try rfl) rfl ?_;exact⟨rfl,aG (mF _ _) _⟩
theorem Mc (w:kX):lI fD 171 #[.int .i64 6] w fun e a=>e=.returned (.tuple #[.func (.func 220) #[] #[],.bool true])/\lY w.heap.size w a:=by
 go_enter jU,gZ;go_wp2_with fail;refine kR (by simp[results,fV,go_sem];try rfl) rfl ?_;exact⟨rfl,aG (mF _ _) _⟩
theorem M8 (w:kX):lI fD 171 #[.int .i64 7] w fun e a=>e=.returned (.tuple #[.func (.func 221) #[] #[],.bool true])/\lY w.heap.size w a:=by
 go_enter jU,gZ;go_wp2_with fail;refine kR (by simp[results,fV,go_sem];try rfl) rfl ?_;exact⟨rfl,aG (mF _ _) _⟩
end Go.Proofs.YtbdpcngcbnoioaaGreatDoor
