import Derived.Test.YtbdpcngcbnoioaaGreatDoorGa1
import Derived.BigRegion
import Derived.Test.YtbdpcngcbnoioaaGreatDoorGa5
import Derived.Deep.RegionWith
import Derived.Test.YtbdpcngcbnoioaaGreatDoorGa4
set_option maxHeartbeats 8000000
namespace Go.Proofs.YtbdpcngcbnoioaaGreatDoor
open Go.RowKit
open Go.RowKit.Below renaming refl->fM,setCell->fQ,drew->gD
open Go renaming rounds_succ->gM,World->gQ,bodyPost_ret->gX,Calls->iM,wp_loop_rounds->iP,wpQuiet_nil->jB,Value->jO,lt_of_block->mO,wpList_append_lies->nA
open Go.RowKit renaming Below->nB
open Go.Proofs.Tryz renaming prog->nT,results130->nX,results98->oU,ntmps130->oW,ntmps98->pU,ntmps90->qV,func130->sD,func98->tJ,func90->tK,underlying27->tL
open _root_.List renaming range_succ->tM,range->tN,flatMap_cons->xU,filter_append->xV,map_append->AP,filter_nil->AW,any_append->C5,map_nil->Df
open _root_.Nat renaming le_trans->E8,add_assoc->Fj,zero_add->Fl,le_refl->Ih
variable {B g j k n s:Nat}{e:TypeId}{l:LI}{v:jO}{w w1:gQ}{x y:Int}{xs:List jO}
attribute [local go_sem ↓] Go.wp_at_zero Go.wp_at_succ
theorem yH (a b c d:Int)(w:gQ):
  iM nT 90 #[tv a b,tv c d] w fun e w'=>e=.returned (.bool (cX a b c d))/\nB w.heap.size w w':=by
 have H:Hid (cX a b c d=(bM a b&&bM c d&&decide (a<=c)&&decide (b<=d))):=rfl;cases hs:bM a b
 ·go_enter tK,qV;go_wp2_with fail;refine (gW _ _ _).mono ?_;rintro e w1 ⟨rfl,A⟩;go_wp2_with fail;go_ret;refine⟨rB (by rw[H.out];simp[hs]),?_⟩
  repeat' (first|(with_reducible exact fM _ _)|(with_reducible assumption)|(with_reducible refine aG ?_ (by with_reducible assumption))|(with_reducible refine aH ?_ _)|(with_reducible refine gD ?_)|(with_reducible refine dV ?_ _)|(with_reducible refine fQ ?_ ?_ _)|(simp;done)|(simp;omega)|omega)
 ·cases R:bM c d
  ·go_enter tK,qV;go_wp2_with fail;refine (gW _ _ _).mono ?_;rintro e w1 ⟨rfl,A⟩;obtain⟨M,I⟩:=xZ A;obtain⟨Q,O,_,_⟩:=I.two;go_wp2_with fail;refine (gW _ _ _).mono ?_;rintro e D ⟨rfl,G⟩;go_wp2_with fail;go_ret;refine⟨rB (by rw[H.out];simp[R]),?_⟩
   repeat' (first|(with_reducible exact fM _ _)|(with_reducible assumption)|(with_reducible refine aG ?_ (by with_reducible assumption))|(with_reducible refine aH ?_ _)|(with_reducible refine gD ?_)|(with_reducible refine dV ?_ _)|(with_reducible refine fQ ?_ ?_ _)|(simp;done)|(simp;omega)|omega)
  ·go_enter tK,qV;go_wp2_with fail;refine (gW _ _ _).mono ?_;rintro e w1 ⟨rfl,A⟩;obtain⟨M,I⟩:=xZ A;obtain⟨s0,s1,_,_⟩:=M.two;obtain⟨Q,O,_,_⟩:=I.two;go_wp2_with fail;refine (gW _ _ _).mono ?_;rintro e D ⟨rfl,G⟩;have L:=M.keep G;have J:=I.keep G;have ls:=L.lt;have lt:=J.lt;obtain⟨x0,Z,_,_⟩:=L.two;obtain⟨Y,W,_,_⟩:=J.two;go_wp2_with fail
   go_cut [5,6] (fun p q wc=>∃g h:Nat,p=.pointer (some ⟨g,0,none⟩)/\q=.pointer (some ⟨h,0,none⟩)/\g≠h/\D.heap.size<=g/\D.heap.size<=h/\Bk wc g #[.int .i64 a,.int .i64 b] 154/\Bk wc h #[.int .i64 c,.int .i64 d] 154/\nB D.heap.size D wc)
   case first=>
    go_region_held3 (fun w'=>w'.cell? ⟨w.heap.size,0,none⟩=some (.int .i64 a)/\w'.cell? ⟨w.heap.size,1,none⟩=some (.int .i64 b)/\w'.cell? ⟨w.heap.size+1,0,none⟩=some (.int .i64 c)/\w'.cell? ⟨w.heap.size+1,1,none⟩=some (.int .i64 d)) (refine⟨?_,?_,?_,?_⟩<;>repeat' (first|with_reducible assumption|with_reducible refine Cy ?_|with_reducible refine vZ ?_|with_reducible refine lX ?_ (by simp;omega))) (first|(go_at_call 135;refine (xQ _ _ _).mono ?_;rintro e w' ⟨rfl,rfl⟩))
    all_goals
     go_wp2_with fail
     go_meet
     case rel=>
      refine⟨_,_,rfl,rfl,?_,?_,?_,?_,?_,?_⟩
      ·first|omega|(simp;done)|(simp;omega)
      ·first|omega|(simp;done)|(simp;omega)
      ·first|omega|(simp;done)|(simp;omega)
      ·repeat' (first|(with_reducible refine Bk.drew ?_)|(with_reducible refine Bk.drewN ?_ _)|(with_reducible refine Bk.new _ _ ?_;(first|with_reducible rfl|omega|(simp;done)|(simp;omega)))|(with_reducible refine Bk.alloc ?_ _)|(with_reducible refine kD.ai ?_ _ _)|(with_reducible refine kD.drew ?_)|(with_reducible refine kD.new _ _ _ ?_;(first|with_reducible rfl|omega|(simp;done)|(simp;omega)))|(with_reducible refine kD.alloc ?_ _)|(with_reducible refine kD.keep ?_ (by with_reducible assumption))|(with_reducible refine Bk.keep ?_ (by with_reducible assumption)))
      ·repeat' (first|(with_reducible refine Bk.drew ?_)|(with_reducible refine Bk.drewN ?_ _)|(with_reducible refine Bk.new _ _ ?_;(first|with_reducible rfl|omega|(simp;done)|(simp;omega)))|(with_reducible refine Bk.alloc ?_ _)|(with_reducible refine kD.ai ?_ _ _)|(with_reducible refine kD.drew ?_)|(with_reducible refine kD.new _ _ _ ?_;(first|with_reducible rfl|omega|(simp;done)|(simp;omega)))|(with_reducible refine kD.alloc ?_ _)|(with_reducible refine kD.keep ?_ (by with_reducible assumption))|(with_reducible refine Bk.keep ?_ (by with_reducible assumption)))
      ·repeat' (first|(with_reducible exact fM _ _)|(with_reducible assumption)|(with_reducible refine aG ?_ (by with_reducible assumption))|(with_reducible refine aH ?_ _)|(with_reducible refine gD ?_)|(with_reducible refine dV ?_ _)|(with_reducible refine fQ ?_ ?_ _)|(simp;done)|(simp;omega)|omega)
   case rest=>
    obtain⟨g,h,rfl,rfl,U,hg,hh,T,S,V⟩:=hcut;obtain⟨g0,g1,_,_⟩:=T.two;obtain⟨h0,h1,_,_⟩:=S.two
    by_cases c1:a<=c
    ·by_cases c2:b<=d
     ·go_wp2_with fail;refine iP 3 ?_;rw[gM];go_wp2_with fail
      go_quiet (fail)
      go_wp2_with fail;rw[gM];go_wp2_with fail
      go_quiet (fail)
      go_wp2_with fail;rw[gM];go_wp2_with fail;go_ret;refine⟨rB (by rw[H.out];simp[*]),?_⟩
      repeat' (first|(with_reducible exact fM _ _)|(with_reducible assumption)|(with_reducible refine aG ?_ (by with_reducible assumption))|(with_reducible refine aH ?_ _)|(with_reducible refine gD ?_)|(with_reducible refine dV ?_ _)|(with_reducible refine fQ ?_ ?_ _)|(simp;done)|(simp;omega)|omega)
     ·go_wp2_with fail;refine iP 3 ?_;rw[gM];go_wp2_with fail
      go_quiet (fail)
      go_wp2_with fail;rw[gM];go_wp2_with fail
      go_quiet (fail)
      go_wp2_with fail;go_ret;refine⟨rB (by rw[H.out];simp;omega),?_⟩
      repeat' (first|(with_reducible exact fM _ _)|(with_reducible assumption)|(with_reducible refine aG ?_ (by with_reducible assumption))|(with_reducible refine aH ?_ _)|(with_reducible refine gD ?_)|(with_reducible refine dV ?_ _)|(with_reducible refine fQ ?_ ?_ _)|(simp;done)|(simp;omega)|omega)
    ·go_wp2_with fail;refine iP 3 ?_;rw[gM];go_wp2_with fail
     go_quiet (fail)
     go_wp2_with fail;go_ret;refine⟨rB (by rw[H.out];simp;omega),?_⟩
     repeat' (first|(with_reducible exact fM _ _)|(with_reducible assumption)|(with_reducible refine aG ?_ (by with_reducible assumption))|(with_reducible refine aH ?_ _)|(with_reducible refine gD ?_)|(with_reducible refine dV ?_ _)|(with_reducible refine fQ ?_ ?_ _)|(simp;done)|(simp;omega)|omega)
attribute [local go_sem ↓] Go.wp_at_zero Go.wp_at_succ
def k9 (a b c d:Int):Int:=if bM a b&&bM c d then max a c else 0
def kA (a b c d:Int):Int:=if bM a b&&bM c d then max b d else 0
theorem n7 (a b c d:Int)(w:gQ):
  iM nT 130 #[tv a b,tv c d] w fun e w'=>e=.returned (tv (k9 a b c d) (kA a b c d))/\nB w.heap.size w w':=by
 have O:Hid (k9 a b c d=if bM a b&&bM c d then max a c else 0):=rfl;have M:Hid (kA a b c d=if bM a b&&bM c d then max b d else 0):=rfl;cases hs:bM a b
 ·go_enter sD,oW;go_wp2_with fail;refine (fZ _ _ _).mono ?_;rintro e w1 ⟨rfl,G⟩;obtain⟨L,H,D⟩:=vF G;obtain⟨R,Q,T,S⟩:=D.two;go_wp2_with fail;refine gX (by simp[results,nX,go_sem,lL D,lM D];try rfl) rfl ?_;refine⟨vS (by rw[O.out];simp[hs]) (by rw[M.out];simp[hs]),?_⟩
  repeat' (first|(with_reducible exact fM _ _)|(with_reducible assumption)|(with_reducible refine aG ?_ (by with_reducible assumption))|(with_reducible refine aH ?_ _)|(with_reducible refine gD ?_)|(with_reducible refine dV ?_ _)|(with_reducible refine fQ ?_ ?_ _)|(simp;done)|(simp;omega)|omega)
 ·cases J:bM c d
  ·go_enter sD,oW;go_wp2_with fail;refine (fZ _ _ _).mono ?_;rintro e w1 ⟨rfl,G⟩;obtain⟨L,H,D⟩:=vF G;obtain⟨W,V,_,_⟩:=H.two;go_wp2_with fail;refine (fZ _ _ _).mono ?_;rintro e U ⟨rfl,A⟩;obtain⟨R,Q,T,S⟩:=(D.keep A).two;go_wp2_with fail;refine gX (by simp[results,nX,go_sem,lL (D.keep A),lM (D.keep A)];try rfl) rfl ?_;refine⟨vS (by rw[O.out];simp[J]) (by rw[M.out];simp[J]),?_⟩
   repeat' (first|(with_reducible exact fM _ _)|(with_reducible assumption)|(with_reducible refine aG ?_ (by with_reducible assumption))|(with_reducible refine aH ?_ _)|(with_reducible refine gD ?_)|(with_reducible refine dV ?_ _)|(with_reducible refine fQ ?_ ?_ _)|(simp;done)|(simp;omega)|omega)
  ·go_enter sD,oW;go_wp2_with fail;refine (fZ _ _ _).mono ?_;rintro e w1 ⟨rfl,G⟩;obtain⟨L,H,D⟩:=vF G;obtain⟨s0,s1,_,_⟩:=L.two;obtain⟨W,V,_,_⟩:=H.two;go_wp2_with fail;refine (fZ _ _ _).mono ?_;rintro e U ⟨rfl,A⟩;obtain⟨x0,x1,_,_⟩:=(L.keep A).two;obtain⟨Z,Y,_,_⟩:=(H.keep A).two;have I:=D.keep A;obtain⟨R,Q,T,S⟩:=I.two;go_wp2_with fail
   all_goals
    refine gX (by simp[results,nX,go_sem,lL I,lM I];try rfl) rfl ?_;refine⟨vS (by rw[O.out];simp[hs,J];omega) (by rw[M.out];simp[hs,J];omega),?_⟩
    repeat' (first|(with_reducible exact fM _ _)|(with_reducible assumption)|(with_reducible refine aG ?_ (by with_reducible assumption))|(with_reducible refine aH ?_ _)|(with_reducible refine gD ?_)|(with_reducible refine dV ?_ _)|(with_reducible refine fQ ?_ ?_ _)|(simp;done)|(simp;omega)|omega)
theorem yG (a b c d:Int)(w:gQ):
  iM nT 98 #[tv a b,tv c d] w fun e w'=>e=.returned (tv (k9 a b c d) (kA a b c d))/\nB w.heap.size w w':=by
 have W:Hid (k9 a b c d=if bM a b&&bM c d then max a c else 0):=rfl;have V:Hid (kA a b c d=if bM a b&&bM c d then max b d else 0):=rfl;cases hs:bM a b
 ·go_enter tJ,pU;go_wp2_with fail;refine (gW _ _ _).mono ?_;rintro e w1 ⟨rfl,H⟩;obtain⟨U,J,G⟩:=vF H;obtain⟨r0,Z,f0,f1⟩:=G.two;go_wp2_with fail;refine gX (by simp[results,oU,go_sem,lL G,lM G];try rfl) rfl ?_;refine⟨vS (by rw[W.out];simp[hs]) (by rw[V.out];simp[hs]),?_⟩
  repeat' (first|(with_reducible exact fM _ _)|(with_reducible assumption)|(with_reducible refine aG ?_ (by with_reducible assumption))|(with_reducible refine aH ?_ _)|(with_reducible refine gD ?_)|(with_reducible refine dV ?_ _)|(with_reducible refine fQ ?_ ?_ _)|(simp;done)|(simp;omega)|omega)
 ·cases O:bM c d
  ·go_enter tJ,pU;go_wp2_with fail;refine (gW _ _ _).mono ?_;rintro e w1 ⟨rfl,H⟩;obtain⟨U,J,G⟩:=vF H;obtain⟨t0,t1,_,_⟩:=J.two;go_wp2_with fail;refine (gW _ _ _).mono ?_;rintro e D ⟨rfl,A⟩;obtain⟨r0,Z,f0,f1⟩:=(G.keep A).two;go_wp2_with fail;refine gX (by simp[results,oU,go_sem,lL (G.keep A),lM (G.keep A)];try rfl) rfl ?_;refine⟨vS (by rw[W.out];simp[O]) (by rw[V.out];simp[O]),?_⟩
   repeat' (first|(with_reducible exact fM _ _)|(with_reducible assumption)|(with_reducible refine aG ?_ (by with_reducible assumption))|(with_reducible refine aH ?_ _)|(with_reducible refine gD ?_)|(with_reducible refine dV ?_ _)|(with_reducible refine fQ ?_ ?_ _)|(simp;done)|(simp;omega)|omega)
  ·go_enter tJ,pU;go_wp2_with fail;refine (gW _ _ _).mono ?_;rintro e w1 ⟨rfl,H⟩;obtain⟨U,J,G⟩:=vF H;obtain⟨t0,t1,_,_⟩:=J.two;go_wp2_with fail;refine (gW _ _ _).mono ?_;rintro e D ⟨rfl,A⟩;have y2:=U.keep A;have x9:=J.keep A;have S:=G.keep A;have ls:=S.lt;obtain⟨x0,x1,_,_⟩:=y2.two;obtain⟨y0,y1,_,_⟩:=x9.two;go_wp2_with fail
   go_cut [5,6] (fun p q wc=>∃g h:Nat,p=.pointer (some ⟨g,0,none⟩)/\q=.pointer (some ⟨h,0,none⟩)/\g≠h/\D.heap.size<=g/\D.heap.size<=h/\Bk wc g #[.int .i64 a,.int .i64 b] 154/\Bk wc h #[.int .i64 c,.int .i64 d] 154/\nB D.heap.size D wc)
   case first=>
    go_region_held3 (fun w'=>w'.cell? ⟨w.heap.size,0,none⟩=some (.int .i64 a)/\w'.cell? ⟨w.heap.size,1,none⟩=some (.int .i64 b)/\w'.cell? ⟨w.heap.size+1,0,none⟩=some (.int .i64 c)/\w'.cell? ⟨w.heap.size+1,1,none⟩=some (.int .i64 d)) (refine⟨?_,?_,?_,?_⟩<;>repeat' (first|with_reducible assumption|with_reducible refine Cy ?_|with_reducible refine vZ ?_|with_reducible refine lX ?_ (by simp;omega))) (first|(go_at_call 135;refine (xQ _ _ _).mono ?_;rintro e w' ⟨rfl,rfl⟩))
    all_goals
     go_wp2_with fail
     go_meet
     case rel=>
      refine⟨_,_,rfl,rfl,?_,?_,?_,?_,?_,?_⟩
      ·first|omega|(simp;done)|(simp;omega)
      ·first|omega|(simp;done)|(simp;omega)
      ·first|omega|(simp;done)|(simp;omega)
      ·repeat' (first|(with_reducible refine Bk.drew ?_)|(with_reducible refine Bk.drewN ?_ _)|(with_reducible refine Bk.new _ _ ?_;(first|with_reducible rfl|omega|(simp;done)|(simp;omega)))|(with_reducible refine Bk.alloc ?_ _)|(with_reducible refine kD.ai ?_ _ _)|(with_reducible refine kD.drew ?_)|(with_reducible refine kD.new _ _ _ ?_;(first|with_reducible rfl|omega|(simp;done)|(simp;omega)))|(with_reducible refine kD.alloc ?_ _)|(with_reducible refine kD.keep ?_ (by with_reducible assumption))|(with_reducible refine Bk.keep ?_ (by with_reducible assumption)))
      ·repeat' (first|(with_reducible refine Bk.drew ?_)|(with_reducible refine Bk.drewN ?_ _)|(with_reducible refine Bk.new _ _ ?_;(first|with_reducible rfl|omega|(simp;done)|(simp;omega)))|(with_reducible refine Bk.alloc ?_ _)|(with_reducible refine kD.ai ?_ _ _)|(with_reducible refine kD.drew ?_)|(with_reducible refine kD.new _ _ _ ?_;(first|with_reducible rfl|omega|(simp;done)|(simp;omega)))|(with_reducible refine kD.alloc ?_ _)|(with_reducible refine kD.keep ?_ (by with_reducible assumption))|(with_reducible refine Bk.keep ?_ (by with_reducible assumption)))
      ·repeat' (first|(with_reducible exact fM _ _)|(with_reducible assumption)|(with_reducible refine aG ?_ (by with_reducible assumption))|(with_reducible refine aH ?_ _)|(with_reducible refine gD ?_)|(with_reducible refine dV ?_ _)|(with_reducible refine fQ ?_ ?_ _)|(simp;done)|(simp;omega)|omega)
   case rest=>
    obtain⟨g,h,rfl,rfl,x3,hg,hh,bg,bh,Q⟩:=hcut;have y5:=S.keep Q;obtain⟨g0,g1,v1,v0⟩:=bg.two;obtain⟨h0,h1,_,_⟩:=bh.two;go_wp2_with fail;refine iP 3 ?_;rw[gM];go_wp2_with fail
    go_region
    have x2:h≠g:=Ne.symm x3;generalize hM:(if a<c then c else a)=M;have HM:Hid (M=max a c):=by show M=max a c;rw[<- hM];split<;>omega
    clear hM;have T:=(bg.set 0 (.int .i64 M)).drew;have y6:=(bh.apart (p:=⟨g,0,none⟩) x2 (.int .i64 M)).drew;have y4:=(y5.apart (p:=⟨g,0,none⟩) (by simp;omega) (.int .i64 M)).drew;have x5:nB D.heap.size D (wc.setCell ⟨g,0,none⟩ (.int .i64 M)).drew:=(Q.setCell hg _).drew;generalize (wc.setCell ⟨g,0,none⟩ (.int .i64 M)).drew=Y at*;obtain⟨k0,k1,z9,z8⟩:=T.two;obtain⟨l0,l1,_,_⟩:=y6.two;go_wp2_with fail;rw[gM];go_wp2_with fail
    go_region
    generalize R:(if b<d then d else b)=I;have z1:Hid (I=max b d):=by show I=max b d;rw[<- R];split<;>omega
    clear R;have y8:=(T.set 1 (.int .i64 I)).drew;have y3:=(y4.apart (p:=⟨g,1,none⟩) (by simp;omega) (.int .i64 I)).drew;have z7:nB D.heap.size D (Y.setCell ⟨g,1,none⟩ (.int .i64 I)).drew:=(x5.setCell hg _).drew;generalize (Y.setCell ⟨g,1,none⟩ (.int .i64 I)).drew=we at*;obtain⟨m0,m1,_,_⟩:=y8.two;go_wp2_with fail;rw[gM];go_wp2_with fail;refine (JX _ _ _).mono ?_;rintro e wf ⟨rfl,x4⟩;have L:=y3.keep x4;obtain⟨r0,Z,f0,f1⟩:=L.two;go_wp2_with fail;refine gX (by simp[results,oU,go_sem,lL L,lM L];try rfl) rfl ?_;refine⟨vS (by rw[W.out,HM.out];simp[hs,O]) (by rw[V.out,z1.out];simp[hs,O]),?_⟩
    repeat' (first|(with_reducible exact fM _ _)|(with_reducible assumption)|(with_reducible refine aG ?_ (by with_reducible assumption))|(with_reducible refine aH ?_ _)|(with_reducible refine gD ?_)|(with_reducible refine dV ?_ _)|(with_reducible refine fQ ?_ ?_ _)|(simp;done)|(simp;omega)|omega)
attribute [local go_sem ↓] Go.wp_at_zero Go.wp_at_succ
set_option maxRecDepth 100000
set_option maxHeartbeats 16000000
open Go.RowKit
attribute [local go_sem ↓] Go.wp_at_zero Go.wp_at_succ
attribute [local go_sem ↓] Go.wp_at_zero Go.wp_at_succ
def iN (l:LI)(x y:Int):Bool:=(tN l.length).any fun i=>cX (tA l i) (tB l i) x y
theorem vX (A:k<l.length)(h:cX (tA l k) (tB l k) x y=true):iN l x y=true:=by
 unfold iN;rw[List.any_eq_true];exact⟨k,by simpa using A,h⟩
theorem Ct (h:∀j,j<l.length->cX (tA l j) (tB l j) x y=false):iN l x y=false:=by
 unfold iN;rw[List.any_eq_false];intro j A;rw[h j (by simpa using A)];simp
def Fk (w:gQ)(k:Nat):Prop:=w.heap[k]?=some (.cells #[.func (.func 90) #[] #[]] 112 (0,0))
theorem Fk.keep (h:Fk w k)(A:nB w.heap.size w w1):Fk w1 k:=by
 unfold Fk;rw[A.block k (mO h)];exact h
theorem Fk.cell (h:Fk w k):w.cell? ⟨k,0,none⟩=some (.func (.func 90) #[] #[]):=cell_of_one h
theorem Jt (a b x y:Int)(D A:Nat)(w:gQ)(hf:Fk w D)(hx:Bk w A #[.int .i64 x,.int .i64 y] 32):
  iM nT 158 #[tv a b,.pointer (some ⟨D,0,none⟩),.pointer (some ⟨A,0,none⟩)] w fun e w'=>e=.returned (.bool (cX a b x y))/\nB w.heap.size w w':=by
 have M:=hf.cell;obtain⟨H,G,_,_⟩:=hx.two;have J:=mO hf;have I:=hx.lt;go_enter Tryz.func158,Tryz.ntmps158
 go_wp2_with (go_at_call 90;refine (yH _ _ _ _ _).mono ?_;rintro e w' ⟨rfl,L⟩)
 go_ret;refine⟨rfl,?_⟩
 repeat' (first|(with_reducible exact fM _ _)|(with_reducible assumption)|(with_reducible refine aG ?_ (by with_reducible assumption))|(with_reducible refine aH ?_ _)|(with_reducible refine gD ?_)|(with_reducible refine dV ?_ _)|(with_reducible refine fQ ?_ ?_ _)|(simp;done)|(simp;omega)|omega)
theorem Ef {a b:Int}{r:Bool}(h:cX a b x y=r){D A:Nat}(hf:Fk w D)(hx:Bk w A #[.int .i64 x,.int .i64 y] 32):
  iM nT 158 #[tv a b,.pointer (some ⟨D,0,none⟩),.pointer (some ⟨A,0,none⟩)] w fun e w'=>e=.returned (.bool r)/\nB w.heap.size w w':=by
 rw[<- h];exact Jt a b x y D A w hf hx
def Ny (p:Nat->Bool)(n:Nat)(r:Int):Prop:=(r = -1/\∀i,i<n->p i=false)\/∃k:Nat,r=k/\k<n/\p k=true/\∀i,i<k->p i=false
theorem Ii (v:jO)(l:LI)(x y:Int)(V U:Nat)(w:gQ)(h:Ts w v l)(hf:Fk w V)(hx:Bk w U #[.int .i64 x,.int .i64 y] 32):
  iM nT 204 #[v,.func (.func 158) #[] #[.pointer (some ⟨V,0,none⟩),.pointer (some ⟨U,0,none⟩)]] w fun e w'=>∃r:Int,e=.returned (.int .i64 r)/\Ny (fun i=>cX (tA l i) (tB l i) x y) l.length r/\nB w.heap.size w w':=by
 obtain⟨a,x1,rfl,hc,hm,hn,A⟩:=h;unfold maxLen at hm;have HC:=(show Hid _ from A);clear A;go_enter Tryz.func204,Tryz.ntmps204;go_wp2_with fail
 go_loopw [8] (fun i wr=>∃k:Nat,k<=l.length/\i=.int .i64 k/\(∀j,j<k->cX (tA l j) (tB l j) x y=false)/\nB w.heap.size w wr) (fun i _=>l.length-(intOf i).toNat)
 case atStart=>exact⟨0,by omega,rfl,fun j hj=>by omega,fM _ _⟩
 case round=>
  obtain⟨k,hk,rfl,I,D⟩:=hrel;have Q:=(show Hid _ from I);clear I
  by_cases L:k<l.length
  ·obtain⟨g,off,rfl,hg,T,c1⟩:=HC.out k L;have d0:=cB D T;have d1:=cB D c1;clear T c1;generalize S:tA l k=X at*;generalize R:tB l k=Y at*;have Z:Hid (tA l k=X):=S;have W:Hid (tB l k=Y):=R;clear S R;have M:=hf.keep D;have J:=hx.keep D;cases hp:cX X Y x y
   ·have O:Hid (cX (tA l k) (tB l k) x y=false):=by show _=false;rw[Z.out,W.out];exact hp
    go_wp2_with fail;refine (Ef hp M J).mono ?_;rintro e w1 ⟨rfl,H⟩;have G:=aG D H;go_wp2_with fail;go_roundw
    case rel=>
     refine⟨k+1,by omega,by go_num,fun j hj=>?_,G⟩
     by_cases e:j=k
     ·subst e;exact O.out
     ·exact Q.out j (by omega)
    case measure=>simp[intOf];omega
   ·have O:Hid (cX (tA l k) (tB l k) x y=true):=by show _=true;rw[Z.out,W.out];exact hp
    go_wp2_with fail;refine (Ef hp M J).mono ?_;rintro e w1 ⟨rfl,H⟩;have G:=aG D H;go_wp2_with fail;go_ret;exact⟨_,rfl,.inr ⟨k,rfl,L,O.out,Q.out⟩,G⟩
  ·go_wp2_with fail;go_ret;exact⟨_,rfl,.inl ⟨rfl,fun i hi=>Q.out i (by omega)⟩,D⟩
theorem Dh (v:jO)(l:LI)(x y:Int)(I H:Nat)(w:gQ)(h:Ts w v l)(hf:Fk w I)(hx:Bk w H #[.int .i64 x,.int .i64 y] 32):
  iM nT 157 #[v,.func (.func 158) #[] #[.pointer (some ⟨I,0,none⟩),.pointer (some ⟨H,0,none⟩)]] w fun e w'=>e=.returned (.bool (iN l x y))/\nB w.heap.size w w':=by
 go_enter Tryz.func157,Tryz.ntmps157;go_wp2_with fail;refine (Ii v l x y I H w h hf hx).mono ?_;rintro e w1 ⟨r,rfl,hr,J⟩
 rcases hr with⟨rfl,G⟩|⟨k,rfl,L,D,_⟩
 ·have A:Hid (iN l x y=false):=Ct G;clear G;go_wp2_with fail;go_ret;exact⟨rB A.out.symm,J⟩
 ·have A:Hid (iN l x y=true):=vX L D;have M:(0:Int)<=(k:Int):=by omega
  clear D;go_wp2_with fail;go_ret;refine⟨?_,J⟩;rw[A.out];exact rB (by simp)
theorem Gv (v:jO)(l:LI)(x y:Int)(w:gQ)(h:Ts w v l):
  iM nT 89 #[v,tv x y,.func (.func 90) #[] #[]] w fun e w'=>e=.returned (.bool (iN l x y))/\nB w.heap.size w w':=by
 have A:nB w.heap.size w ((w.alloc (.cells #[.int .i64 x,.int .i64 y] 32)).alloc (.cells #[.func (.func 90) #[] #[]] 112)):=aH (aH (fM _ _) _) _;have hx:Bk ((w.alloc (.cells #[.int .i64 x,.int .i64 y] 32)).alloc (.cells #[.func (.func 90) #[] #[]] 112)) w.heap.size #[.int .i64 x,.int .i64 y] 32:=(Bk.new _ _ rfl).alloc _;have hf:Fk ((w.alloc (.cells #[.int .i64 x,.int .i64 y] 32)).alloc (.cells #[.func (.func 90) #[] #[]] 112)) (w.heap.size+1):=by
  have:=heap_alloc_new (w.alloc (.cells #[.int .i64 x,.int .i64 y] 32)) (.cells #[.func (.func 90) #[] #[]] 112)
  simpa[Fk]using this
 go_enter Tryz.func89,Tryz.ntmps89;go_wp2_with fail;refine (Dh v l x y _ _ _ (h.keep A) hf hx).mono ?_;rintro e w1 ⟨rfl,D⟩;go_wp2_with fail;go_ret;exact⟨rfl,aG A D⟩
theorem C8 (v:jO)(l:LI)(x y:Int)(w:gQ)(h:Ts w v l):
  iM nT 29 #[v,tv x y] w fun e w'=>e=.returned (.bool (dA l&&iN l x y))/\nB w.heap.size w w':=by
 have G:nB w.heap.size w (w.alloc (.cells #[.int .i64 x,.int .i64 y] 32)):=aH (fM _ _) _;have I:Bk (w.alloc (.cells #[.int .i64 x,.int .i64 y] 32)) w.heap.size #[.int .i64 x,.int .i64 y] 32:=Bk.new _ _ rfl;go_enter Tryz.func29,Tryz.ntmps29;go_wp2_with fail;refine (tX v l _ (h.keep G)).mono ?_;rintro e w1 ⟨rfl,D⟩;have A:=aG G D;obtain⟨L,c1,_,_⟩:=(I.keep D).two;cases hf:dA l
 ·go_wp2_with fail;go_ret;exact⟨rB (by simp[hf]),A⟩
 ·go_wp2_with fail;refine (Gv v l x y _ (h.keep A)).mono ?_;rintro e J ⟨rfl,H⟩;go_wp2_with fail;go_ret;exact⟨rB (by simp[hf]),aG A H⟩
theorem jD {a b c d:Int}{r:Bool}(h:cX a b c d=r)(w:gQ):iM nT 129 #[tv a b,tv c d] w fun e w'=>e=.returned (.bool r)/\nB w.heap.size w w':=by
 rw[<- h];exact Fu a b c d w
theorem CS (v:jO)(l:LI)(x y:Int)(w:gQ)(h:Ts w v l):
  iM nT 62 #[v,tv x y] w fun e w'=>e=.returned (.bool (dA l&&iN l x y))/\nB w.heap.size w w':=by
 have J:nB w.heap.size w (w.alloc (.cells #[.int .i64 x,.int .i64 y] 32)):=aH (fM _ _) _;have Z:Bk (w.alloc (.cells #[.int .i64 x,.int .i64 y] 32)) w.heap.size #[.int .i64 x,.int .i64 y] 32:=Bk.new _ _ rfl;go_enter Tryz.func62,Tryz.ntmps62;go_wp2_with fail;refine (uL v l _ (h.keep J)).mono ?_;rintro e w1 ⟨rfl,I⟩;have G:=aG J I;have R:=Z.keep I;cases hf:dA l
 ·go_wp2_with fail;go_ret;exact⟨rB (by simp[hf]),G⟩
 obtain⟨a,x4,rfl,hc,hm,hn,D⟩:=h.keep G;unfold maxLen at hm;have HC:=(show Hid _ from D);have HF:Hid (dA l=true):=hf;clear D Z J I hf;go_wp2_with fail
 go_loopw [5] (fun i wr=>∃k:Nat,k<=l.length/\i=.int .i64 k/\(∀j,j<k->cX (tA l j) (tB l j) x y=false)/\nB w1.heap.size w1 wr) (fun i _=>l.length-(intOf i).toNat)
 case atStart=>exact⟨0,by omega,rfl,fun j S=>by omega,fM _ _⟩
 case round=>
  obtain⟨k,hk,rfl,L,H⟩:=hrel;have HA:=(show Hid _ from L);clear L;have Q:=aG G H
  by_cases O:k<l.length
  ·obtain⟨g,off,rfl,hg,W,c1⟩:=HC.out k O;generalize V:tA l k=X at*;generalize U:tB l k=Y at*;have EX:Hid (tA l k=X):=V;have EY:Hid (tB l k=Y):=U;clear V U;have d0:∀p:eC wr,p.ww.cell? ⟨g,off+k*2,none⟩=some (.int .i64 X):=fun p=>cB p.below (cB H W);have d1:∀p:eC wr,p.ww.cell? ⟨g,off+k*2+1,none⟩=some (.int .i64 Y):=fun p=>cB p.below (cB H c1);have e0:=(R.keep H).de;have e1:=(R.keep H).dc;have hne:=lG wr;have ik:((k:Int)<(l.length:Int)):=by omega
   clear W c1;cases hp:cX X Y x y
   ·have M:Hid (cX (tA l k) (tB l k) x y=false):=by show _=false;rw[EX.out,EY.out];exact hp
    go_wp2_with fail
    (refine lF (by kernel_rfl) (by kernel_rfl) ?_;(repeat (go_big_quiet_step ((first|(go_at_call 129;exact jS (jD (by with_reducible assumption) _))))));refine jB ?_)
    intro w2 A
    replace A:=kU A
    have T:=aG H A;go_wp2_with fail;go_roundw
    case rel=>
     refine⟨k+1,by omega,by go_num,fun j S=>?_,T⟩
     by_cases e:j=k
     ·subst e;exact M.out
     ·exact HA.out j (by omega)
    case measure=>simp[intOf];omega
   ·have M:Hid (iN l x y=true):=vX O (by rw[EX.out,EY.out];exact hp);go_wp2_with fail
    (refine lF (by kernel_rfl) (by kernel_rfl) ?_;(repeat (go_big_quiet_step ((first|(go_at_call 129;exact jS (jD (by with_reducible assumption) _))))));refine jB ?_)
    intro w2 A
    replace A:=kU A
    go_wp2_with fail;go_ret;exact⟨rB (by rw[HF.out,M.out];rfl),aG Q A⟩
  ·have M:Hid (iN l x y=false):=Ct fun j S=>HA.out j (by omega);go_wp2_with fail;go_ret;exact⟨rB (by rw[M.out];simp),Q⟩
def jR (l:LI):List jO:=l.flatMap fun p=>[.int .i64 p.1,.int .i64 p.2]
theorem xO (l:LI):(jR l).length=l.length*2:=by
 induction l with
 | nil=>rfl
 | cons p l ih=>unfold jR at*;simp[xU,ih];omega
theorem mC (l:LI)(a b:Int):jR (l++[(a,b)])=jR l++[.int .i64 a,.int .i64 b]:=by
 unfold jR;rw[List.flatMap_append];simp
theorem q7 (l:LI)(i:Nat)(h:i<l.length):(jR l)[i*2]?=some (.int .i64 (tA l i))/\(jR l)[i*2+1]?=some (.int .i64 (tB l i)):=by
 induction l generalizing i with
 | nil=>simp at h
 | cons p l ih=>
  cases i with
  | zero=>simp[jR,tA,tB,xU]
  | succ i=>
   have:=ih i (by simpa using h);have A:(i+1)*2=i*2+2:=by omega
   have D:(i+1)*2+1=i*2+1+2:=by omega
   rw[A]
   simpa[jR,xU,tA,tB]using this
abbrev bW (w:gQ)(B:Nat)(v:jO)(l:LI):Prop:=w.ownsRow B 32 2 v l.length (jR l)
theorem bW.ts (h:bW w B v l)(hl:l.length<=2097152):Ts w v l:=by
 have A:=h;obtain⟨_,h2⟩:=h
 rcases h2 with⟨rfl,h0⟩|⟨g,D,I,rfl,hg,H,G,hm,_,_⟩
 ·have:l=[]:=List.eq_nil_of_length_eq_zero h0;subst this;exact⟨none,0,rfl,Ih _,by unfold maxLen;omega,by simp,fun i hi=>by simp at hi⟩
 ·refine⟨_,D,rfl,G,hm,hl,fun i hi=>⟨g,0,rfl,mO H,?_,?_⟩⟩
  ·rw[Fl,A.cellAt _ (by omega)];exact (q7 l i hi).1
  ·rw[Fl,A.cellAt _ (by omega)];exact (q7 l i hi).2
theorem Af (h:w.ownsRow B e s v n xs)(H:∀k,B<=k->k<w.heap.size->w1.heap[k]?=w.heap[k]?):w1.ownsRow B e s v n xs:=by
 obtain⟨h1,h2⟩:=h;refine⟨h1,?_⟩
 rcases h2 with h2|⟨g,G,D,rfl,hg,A,r⟩
 ·exact .inl h2
 ·exact .inr ⟨g,G,D,rfl,hg,by rw[H g hg (mO A)];exact A,r⟩
theorem oX (h:w.ownsRow B e s v n xs)(hx:Bx g w w1)(hg:g<B):w1.ownsRow B e s v n xs:=
 Af h fun k A hs=>hx.block k hs (by omega)
theorem cC (h:w.ownsRow B e s v n xs)(hx:nB w.heap.size w w1):w1.ownsRow B e s v n xs:=
 Af h fun k _ hs=>hx.block k hs
theorem cW {B':Nat}(h:w.ownsRow B e s v n xs)(G:B'<=B):w.ownsRow B' e s v n xs:=by
 obtain⟨h1,h2⟩:=h;refine⟨h1,?_⟩
 rcases h2 with h2|⟨g,D,A,rfl,hg,r⟩
 ·exact .inl h2
 ·exact .inr ⟨g,D,A,rfl,by omega,r⟩
theorem Bx.grown {a w':gQ}{A:Option Nat}(h:Bx g a w)(hg:w.grownBy w' A)(hr:∀k,A=some k->a.heap.size<=k):Bx g a w':=
 ⟨hg.os.trans h.os,hg.tape.trans h.tape,hg.output.trans h.output,E8 h.size hg.size,fun k G D=>by
  have hs:=h.size;rw[hg.block k (by omega) (fun e=>by have:=hr k e.symm;omega)];exact h.block k G D⟩
theorem Rd.grown {w':gQ}{p:Int}{A:Option Nat}(h:Rd B w g v n p)(hg:w.grownBy w' A)(hr:∀k,A=some k->g<k):Rd B w' g v n p:=by
 have hl:=h.blk.lt;have J:=h.here;have hs:=h.size;have same:∀k,k<=g->w'.heap[k]?=w.heap[k]?:=fun k I=>hg.block k (by omega) (fun e=>by have:=hr k e.symm;omega);refine⟨by unfold Bk;rw[same g (Ih _)];exact h.blk,?_,h.few,h.here,E8 h.size hg.size⟩;obtain⟨a,G,rfl,h1,h2,h3⟩:=h.bytes;refine⟨a,G,rfl,h1,h2,fun i hi=>?_⟩;obtain⟨b,off,z,rfl,D,H,h4,h5⟩:=h3 i hi;exact⟨b,off,z,rfl,D,by rw[gQ.cell?_of_block (w:=w) (same b (by omega))];exact H,h4,h5⟩
theorem F7 {p:Int}(h:Rd B w g v n p)(hp:0<=p)(y8:p<=800000)(D:Int)(z1:0<=D)(z0:D<=100):
  iM nT 201 #[.pointer (some ⟨g,0,none⟩),.int .i64 D] w fun e w'=>∃(o:jO)(l:LI),e=.returned o/\l.length<=100/\bW w' w.heap.size o l/\(∃G:Int,p<=G/\G<=p+400/\Rd B w' g v n G)/\Bx g w w':=by
 obtain⟨i0,hi,x3,x2,h9⟩:=info_parts rV;have hg:=h.blk.lt;have hh:=h.here;have hs:=h.size;have h0:=h.aa (aH (fM _ _) (.cells #[] 32));have U:Bx g w (w.alloc (.cells #[] 32)):=(Bx.refl _ _).alloc _;have Z:=kZ w 32 2;go_enter Tryz.func201,Tryz.ntmps201;go_wp2_with fail;refine (pA h0 hp (by omega) _ (by omega) (by omega)).mono ?_;rintro e w1 ⟨k,rfl,x8,z7,R,I⟩;have Y:=oX Z I hg;have T:=U.trans I;clear Z U h0 I;go_wp2_with fail
 go_loopw [5,6] (fun o i wr=>∃(m:Nat)(l:LI)(G:Int),(m:Int)<=D/\i=.int .i64 m/\(l.length:Int)+m<=D/\bW wr w.heap.size o l/\p<=G/\G<=p+1+3*l.length/\Rd B wr g v n G/\Bx g w wr) (fun _ i _=>(intOf i).toNat)
 case atStart=>
  obtain⟨m,rfl⟩:=Int.eq_ofNat_of_zero_le x8;exact⟨m,[],p+1,by omega,rfl,by simp;omega,Y,by omega,by simp,R,T⟩
 case round=>
  clear Y T R;obtain⟨m,l,G,hm,rfl,z4,A,x7,S,hr,hx⟩:=hrel;have HO:=(show Hid _ from A);have HP:=(show Hid _ from S);clear A
  by_cases z3:0<m
  ·go_wp2_with fail;refine (qQ hr (by omega) (by omega)).mono ?_;rintro e V ⟨a,b,rfl,v1,v0,z9,z8,⟨W,y7,y6,x6⟩,O⟩;have A:=oX HO.out O hg;have Q:=hx.trans O;have y5:=Q.size;have y2:l.length<=100:=by omega
   have HQ:=HP;clear HP S
   go_wp2_with (at_builtin;refine nA _ rfl _ _ 27 rfl w.heap.size 32 i0 (.agg #[.int .i64 0,.int .i64 0]) 2 16 tL hi x3 x2 h9 rfl (by decide) _ _ _ rfl (A.alloc _) ⟨V.heap.size,0,none⟩ 1 1 [.int .i64 a,.int .i64 b] rfl rfl (BU _ _ _ _) (rY _ _) (by omega) (by unfold maxLen;omega) (by omega) (by simp;omega) (V.heap.size+1) (by simp) ?_;intro g3 x9 J M H hat z5)
   have L:bW J w.heap.size (.slice (some ⟨g3,0,none⟩) (l.length+1) x9) (l++[(a,b)]):=by
    show J.ownsRow _ _ _ _ _ _
    rw[mC];simpa using M
   have x5:Rd B J g v n W:=(x6.aa (aH (fM _ _) _)).grown H (fun k e=>by have:=kK A k e;omega);have x4:Bx g w J:=(Q.alloc _).grown H (kK A);exact⟨⟨m-1,l++[(a,b)],W,by omega,by congr 1;omega,by simp;omega,L,by omega,by have:=HQ.out;simp;omega,x5,x4⟩,by simp[intOf];omega⟩
  ·obtain rfl:m=0:=by omega
   go_wp2_with fail;go_ret;exact⟨_,l,rfl,by omega,HO.out,⟨G,x7,by omega,hr⟩,hx⟩
def lP (l:LI):Bool:=(tN l.length).all fun i=>bM (tA l i) (tB l i)
theorem Je (A:k<l.length)(h:bM (tA l k) (tB l k)=false):lP l=false:=by
 unfold lP;rw[List.all_eq_false];exact⟨k,by simpa using A,by simp[h]⟩
theorem EM (h:∀j,j<l.length->bM (tA l j) (tB l j)=true):lP l=true:=by
 unfold lP;rw[List.all_eq_true];intro j A;exact h j (by simpa using A)
def By (l:LI)(a b:Int)(i:Nat):Bool:=decide (tA l i=a/\tB l i=b)
def BQ (l:LI)(a b:Int)(i:Nat):Bool:=!By l a b i&&cX (tA l i) (tB l i) a b
def uE (l:LI)(a b:Int)(m:Nat):Bool:=(tN m).any (By l a b)
def qR (l:LI)(a b:Int)(m:Nat):Bool:=(tN m).any (BQ l a b)
def mX (l:LI)(a b:Int):Bool:=uE l a b l.length&&!qR l a b l.length
def gA (i:Nat):Int:=((i / 8:Nat):Int)
def gB (i:Nat):Int:=7-((i%8:Nat):Int)
theorem Ie (A:j<8):gA (8*k+j)=k:=by unfold gA;omega
theorem If (A:j<8):gB (8*k+j)=7-(j:Int):=by unfold gB;omega
def mH (l:LI)(n:Nat):LI:=((tN n).filter fun i=>mX l (gA i) (gB i)).map fun i=>(gA i,gB i)
def dR (l:LI):LI:=if lP l then mH l 64 else []
theorem J4 (l:LI)(a b:Int)(m:Nat):uE l a b (m+1)=(uE l a b m||By l a b m):=by
 unfold uE;rw[tM,C5];simp
theorem J2 (l:LI)(a b:Int)(m:Nat):qR l a b (m+1)=(qR l a b m||BQ l a b m):=by
 unfold qR;rw[tM,C5];simp
theorem Ep (l:LI)(n:Nat):(mH l n).length<=n:=by
 unfold mH;rw[List.length_map];exact E8 (List.length_filter_le _ _) (by simp)
theorem MS (l:LI)(A:j<8)(h:mX l k (7-(j:Int))=true):mH l (8*k+(j+1))=mH l (8*k+j)++[((k:Int),7-(j:Int))]:=by
 have D:mX l (gA (8*k+j)) (gB (8*k+j))=true:=by rw[Ie A,If A];exact h
 unfold mH;rw[<- Fj,tM,xV,AP,List.filter_cons_of_pos (p:=fun i=>mX l (gA i) (gB i)) D,AW,List.map_cons,Df,Ie A,If A]
theorem Ob (l:LI)(A:j<8)(h:mX l k (7-(j:Int))=false):mH l (8*k+(j+1))=mH l (8*k+j):=by
 have D:¬mX l (gA (8*k+j)) (gB (8*k+j))=true:=by rw[Ie A,If A,h];simp
 unfold mH;rw[<- Fj,tM,xV,AP,List.filter_cons_of_neg (p:=fun i=>mX l (gA i) (gB i)) D,AW,Df,List.append_nil]
theorem Mg (v:jO)(l:LI)(w:gQ)(h:Ts w v l):
  iM nT 185 #[v] w fun e w'=>e=.returned (.bool (lP l))/\nB w.heap.size w w':=by
 obtain⟨a,W,rfl,hc,hm,hn,A⟩:=h;unfold maxLen at hm;have V:=(show Hid _ from A);clear A;go_enter Tryz.func185,Tryz.ntmps185;go_wp2_with fail
 go_loopw [3] (fun i wr=>∃k:Nat,k<=l.length/\i=.int .i64 k/\(∀j,j<k->bM (tA l j) (tB l j)=true)/\nB w.heap.size w wr) (fun i _=>l.length-(intOf i).toNat)
 case atStart=>exact⟨0,by omega,rfl,fun j L=>by omega,fM _ _⟩
 case round=>
  obtain⟨k,Z,rfl,H,G⟩:=hrel;have S:=(show Hid _ from H);clear H
  by_cases J:k<l.length
  ·obtain⟨g,off,rfl,hg,R,c1⟩:=V.out k J;have d0:=cB G R;have d1:=cB G c1;clear R c1;generalize Q:tA l k=X at*;generalize O:tB l k=Y at*;have U:Hid (tA l k=X):=Q;have T:Hid (tB l k=Y):=O;clear Q O;cases ho:bM X Y
   ·have I:Hid (lP l=false):=Je J (by rw[U.out,T.out];exact ho);go_wp2_with fail;refine (lB ho _).mono ?_;rintro e w1 ⟨rfl,D⟩;go_wp2_with fail;go_ret;exact⟨rB I.out.symm,aG G D⟩
   ·have I:Hid (bM (tA l k) (tB l k)=true):=by show _=true;rw[U.out,T.out];exact ho
    go_wp2_with fail;refine (lB ho _).mono ?_;rintro e w1 ⟨rfl,D⟩;have M:=aG G D;go_wp2_with fail;go_roundw
    case rel=>
     refine⟨k+1,by omega,by go_num,fun j L=>?_,M⟩
     by_cases e:j=k
     ·subst e;exact I.out
     ·exact S.out j (by omega)
    case measure=>simp[intOf];omega
  ·have I:Hid (lP l=true):=EM fun j L=>S.out j (by omega);go_wp2_with fail;go_ret;exact⟨rB I.out.symm,G⟩
theorem uK (v:jO)(l:LI)(w:gQ)(h:Ts w v l):
  iM nT 131 #[v] w fun e w'=>∃o:jO,e=.returned o/\bW w' w.heap.size o (dR l)/\nB w.heap.size w w':=by
 obtain⟨i0,hi,v4,v3,v2⟩:=info_parts rV;have x1:nB w.heap.size w (w.alloc (.cells #[] 32)):=aH (fM _ _) _;have o0:=kZ w 32 2;go_enter Tryz.func131,Tryz.ntmps131;go_wp2_with fail;refine (Mg v l _ (h.keep x1)).mono ?_;rintro e w1 ⟨rfl,x0⟩;have Q:=aG x1 x0;have o1:=cC o0 x0;clear o0 x1 x0;cases W:lP l
 ·have HK:Hid (dR l=[]):=by show _=[];simp[dR,W]
  go_wp2_with fail;go_ret;refine⟨_,rfl,?_,Q⟩;rw[HK.out];exact o1
 have HK:Hid (dR l=mH l 64):=by show _=_;simp[dR,W]
 clear W;obtain⟨a,b4,rfl,hc,hm,hn,O⟩:=h;unfold maxLen at hm;have HC:=(show Hid _ from O);clear O;generalize hN:l.length=n at*;have HN:Hid (l.length=n):=hN;clear hN;go_wp2_with fail
 go_loopw [3,4] (fun o i wr=>∃k:Nat,k<=8/\i=.int .i64 k/\bW wr w.heap.size o (mH l (8*k))/\nB w.heap.size w wr) (fun _ i _=>8-(intOf i).toNat)
 case atStart=>exact⟨0,by omega,rfl,o1,Q⟩
 case round=>
  clear o1 Q;obtain⟨k,hk,rfl,G,A⟩:=hrel;have R:=(show Hid _ from G);clear G
  by_cases a9:k<8
  ·have b1:decide ((k:Int)<=7)=true:=by simp;omega
   go_wp2_with fail
   go_loopw [3,5] (fun o i V=>∃j:Nat,j<=8/\i=.int .i64 (7-(j:Int))/\bW V w.heap.size o (mH l (8*k+j))/\nB w.heap.size w V) (fun _ i _=>(intOf i+1).toNat)
   case atStart=>exact⟨0,by omega,rfl,R.out,A⟩
   case round=>
    clear R A;obtain⟨j,hj,rfl,G,A⟩:=hrel;have R:=(show Hid _ from G);clear G
    by_cases y3:j<8
    ·have b3:decide ((j:Int)<=7)=true:=by simp;omega
     have b2:decide (0<=7-(j:Int))=true:=by simp;omega
     have x5:=Bk.new (w:=wr) #[.int .i64 (k:Int),.int .i64 (7-(j:Int))] 32 rfl;have T:=aH A (.cells #[.int .i64 (k:Int),.int .i64 (7-(j:Int))] 32);have OT:=(show Hid _ from cC R.out (aH (fM _ wr) (.cells #[.int .i64 (k:Int),.int .i64 (7-(j:Int))] 32)));clear R A;go_wp2_with fail;generalize (wr.alloc (.cells #[.int .i64 (k:Int),.int .i64 (7-(j:Int))] 32))=wt at*;generalize wr.heap.size=tb at*
     go_loopw [7,8] (fun lb i V=>∃m:Nat,m<=n/\i=.int .i64 m/\lb=.bool (uE l k (7-(j:Int)) m)/\nB wt.heap.size wt V) (fun _ i _=>n-(intOf i).toNat)
     case atStart=>exact⟨0,by omega,rfl,rfl,fM _ _⟩
     case round=>
      obtain⟨m,a8,rfl,rfl,A⟩:=hrel
      by_cases v7:m<n
      ·obtain⟨g,off,rfl,hg,c0,c1⟩:=HC.out m v7;have d0:=cB A (cB T c0);have d1:=cB A (cB T c1);clear c0 c1;obtain⟨t0,t1,_,_⟩:=(x5.keep A).two;have I:=(show Hid _ from J4 l k (7-(j:Int)) m);have J:=(show Hid (By l k (7-(j:Int)) m=decide (tA l m=k/\tB l m=7-(j:Int))) from rfl);generalize hX:tA l m=X at*;generalize hY:tB l m=Y at*;clear hX hY;have im:((m:Int)<(n:Int)):=by omega
       by_cases U:X=k
       ·by_cases x2:Y=7-(j:Int)
        ·subst U x2;go_wp2_with fail
         go_quiet (fail)
         go_wp2_with fail;go_roundw
         case rel=>exact⟨m+1,by omega,by go_num,by rw[I.out,J.out];simp,dV A _⟩
         case measure=>simp[intOf];omega
        ·subst U;have ny:(Y==7-(j:Int))=false:=beq_eq_false_iff_ne.2 x2;go_wp2_with fail
         go_quiet (fail)
         go_wp2_with fail;go_roundw
         case rel=>exact⟨m+1,by omega,by go_num,by rw[I.out,J.out];simp[x2],dV A _⟩
         case measure=>simp[intOf];omega
       ·have nx:(X==(k:Int))=false:=beq_eq_false_iff_ne.2 U;go_wp2_with fail
        go_quiet (fail)
        go_wp2_with fail;go_roundw
        case rel=>exact⟨m+1,by omega,by go_num,by rw[I.out,J.out];simp[U],dV A _⟩
        case measure=>simp[intOf];omega
      ·obtain rfl:m=n:=by omega
       obtain⟨w5,v5⟩:∃w5,w5=wr:=⟨_,rfl⟩;subst v5;have h9:=aG T A;have x4:=x5.keep A;have O5:=(show Hid _ from cC OT.out A);have HL:Hid (mX l k (7-(j:Int))=(uE l k (7-(j:Int)) m&&!qR l k (7-(j:Int)) m)):=by show _=_;unfold mX;rw[HN.out]
       clear A T x5 OT;generalize v8:uE l k (7-(j:Int)) m=me at*;clear v8;go_wp2_with fail
       go_loopw [7,9] (fun lb i V=>∃q:Nat,q<=m/\i=.int .i64 q/\lb=.bool (me&&!qR l k (7-(j:Int)) q)/\nB w5.heap.size w5 V) (fun _ i _=>m-(intOf i).toNat)
       case atStart=>exact⟨0,by omega,rfl,by simp[qR],fM _ _⟩
       case round=>
        obtain⟨q,a7,rfl,rfl,A⟩:=hrel
        by_cases v6:q<m
        ·obtain⟨g,off,rfl,hg,c0,c1⟩:=HC.out q v6;have I:=(show Hid _ from J2 l k (7-(j:Int)) q);have J:=(show Hid (BQ l k (7-(j:Int)) q=(!decide (tA l q=k/\tB l q=7-(j:Int))&&cX (tA l q) (tB l q) k (7-(j:Int)))) from rfl);generalize hX:tA l q=X at*;generalize hY:tB l q=Y at*;clear hX hY;generalize v9:qR l k (7-(j:Int)) q=lo at*;clear v9;have d0:∀p:eC wr,p.ww.cell? ⟨g,off+q*2,none⟩=some (.int .i64 X):=fun p=>cB p.below (cB A (cB h9 c0));have d1:∀p:eC wr,p.ww.cell? ⟨g,off+q*2+1,none⟩=some (.int .i64 Y):=fun p=>cB p.below (cB A (cB h9 c1));have t0:=(x4.keep A).de;have t1:=(x4.keep A).dc;have hne:=lG wr;clear c0 c1;have iq:((q:Int)<(m:Int)):=by omega
         by_cases M:X=k/\Y=7-(j:Int)
         ·obtain⟨rfl,rfl⟩:=M;go_wp2_with fail
          (refine lF (by kernel_rfl) (by kernel_rfl) ?_;(repeat (go_big_quiet_step ((first|(go_at_call 129;exact jS (jD (by with_reducible assumption) _))))));refine jB ?_)
          intro w6 D
          replace D:=kU D
          have H:=aG A D;go_wp2_with fail;go_roundw
          case rel=>exact⟨q+1,by omega,by go_num,by rw[I.out,J.out];simp,H⟩
          case measure=>simp[intOf];omega
         ·have y1:(X==(k:Int))=false\/(X=k/\(Y==7-(j:Int))=false):=by
           by_cases hx:X=k
           ·exact .inr ⟨hx,beq_eq_false_iff_ne.2 fun h=>M ⟨hx,h⟩⟩
           ·exact .inl (beq_eq_false_iff_ne.2 hx)
          have S:decide (X=k/\Y=7-(j:Int))=false:=by simpa using M
          cases hp:cX X Y k (7-(j:Int))
          ·have L:Hid ((lo||(!decide (X=k/\Y=7-(j:Int))&&cX X Y k (7-(j:Int))))=lo):=by show _=lo;rw[S,hp];simp
           clear M S
           rcases y1 with nx|⟨rfl,ny⟩
           all_goals go_wp2_with fail
           all_goals (refine lF (by kernel_rfl) (by kernel_rfl) ?_;(repeat (go_big_quiet_step ((first|(go_at_call 129;exact jS (jD (by with_reducible assumption) _))))));refine jB ?_)
           all_goals intro w6 D
           all_goals replace D:=kU D
           all_goals have H:=aG A D
           all_goals go_wp2_with fail
           all_goals go_roundw
           case rel=>exact⟨q+1,by omega,by go_num,by rw[I.out,J.out,L.out],H⟩
           case measure=>simp[intOf];omega
           case rel=>exact⟨q+1,by omega,by go_num,by rw[I.out,J.out,L.out],H⟩
           case measure=>simp[intOf];omega
          ·have L:Hid ((lo||(!decide (X=k/\Y=7-(j:Int))&&cX X Y k (7-(j:Int))))=true):=by show _=true;rw[S,hp];simp
           clear M S
           rcases y1 with nx|⟨rfl,ny⟩
           all_goals go_wp2_with fail
           all_goals (refine lF (by kernel_rfl) (by kernel_rfl) ?_;(repeat (go_big_quiet_step ((first|(go_at_call 129;exact jS (jD (by with_reducible assumption) _))))));refine jB ?_)
           all_goals intro w6 D
           all_goals replace D:=kU D
           all_goals have H:=aG A D
           all_goals go_wp2_with fail
           all_goals go_roundw
           case rel=>exact⟨q+1,by omega,by go_num,by rw[I.out,J.out,L.out];simp,H⟩
           case measure=>simp[intOf];omega
           case rel=>exact⟨q+1,by omega,by go_num,by rw[I.out,J.out,L.out];simp,H⟩
           case measure=>simp[intOf];omega
        ·obtain rfl:q=m:=by omega
         have OW:=cC O5.out A;have Z:=aG h9 A;obtain⟨t0,t1,_,_⟩:=(x4.keep A).two;have a0:=Ep l (8*k+j);have y4:=HL;cases y2:(me&&!qR l k (7-(j:Int)) q)
         ·have HZ:Hid (mH l (8*k+(j+1))=mH l (8*k+j)):=Ob l y3 (by rw[y4.out];exact y2);have w8:=(show Hid _ from OW);clear OW;go_wp2_with fail;go_roundw
          case rel=>
           refine⟨j+1,by omega,by go_num,?_,Z⟩;rw[HZ.out];exact w8.out
          case measure=>simp[intOf];omega
         ·have HZ:Hid (mH l (8*k+(j+1))=mH l (8*k+j)++[((k:Int),7-(j:Int))]):=MS l y3 (by rw[y4.out];exact y2);have a6:=Z.size
          go_wp2_with (at_builtin;refine nA _ rfl _ _ 27 rfl w.heap.size 32 i0 (.agg #[.int .i64 0,.int .i64 0]) 2 16 tL hi v4 v3 v2 rfl (by decide) _ _ _ rfl (OW.alloc _) ⟨wr.heap.size,0,none⟩ 1 1 [.int .i64 (k:Int),.int .i64 (7-(j:Int))] rfl rfl (BU _ _ _ _) (rY _ _) (by omega) (by unfold maxLen;omega) (by omega) (by simp;omega) (wr.heap.size+1) (by simp) ?_;intro g3 a2 w3 x8 x9 hat b0)
          have w2:nB w.heap.size w w3:=(aH Z _).grown x9 (by simp;omega) (kK OW);go_roundw
          case rel=>
           refine⟨j+1,by omega,by go_num,?_,w2⟩;rw[HZ.out]
           show w3.ownsRow _ _ _ _ _ _
           rw[mC];simpa using x8
          case measure=>simp[intOf];omega
    ·obtain rfl:j=8:=by omega
     go_wp2_with fail;go_roundw
     case rel=>exact⟨k+1,by omega,by go_num,R.out,A⟩
     case measure=>simp[intOf];omega
  ·obtain rfl:k=8:=by omega
   go_wp2_with fail;go_ret;refine⟨_,rfl,?_,A⟩;rw[HK.out];exact R.out
end Go.Proofs.YtbdpcngcbnoioaaGreatDoor
