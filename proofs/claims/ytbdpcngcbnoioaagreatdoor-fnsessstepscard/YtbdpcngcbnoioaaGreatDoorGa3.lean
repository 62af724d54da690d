import Derived.Test.YtbdpcngcbnoioaaGreatDoorGa1
import Derived.BigRegion
set_option maxHeartbeats 8000000
namespace Go.Proofs.YtbdpcngcbnoioaaGreatDoor
open Go.RowKit
open Go.RowKit.Below renaming setCell->fD,refl->fH,drew->fV
open Go.Proofs.Tryz renaming results130->gY,results98->gZ,ntmps130->iC,ntmps98->jU,ntmps90->kR,func130->kX,func98->lI,func90->lY,prog->mF
open Go renaming rounds_succ->mJ,bodyPost_ret->nU,wp_loop_rounds->oJ
open Go.RowKit renaming Below->oO
attribute [local go_sem ↓] Go.wp_at_zero Go.wp_at_succ
theorem rR (a b c d:Int)(w:World):
  Calls mF 90 #[tv a b,tv c d] w fun e s=>e=.returned (.bool (cV a b c d))/\oO w.heap.size w s:=by
 have H:Hid (cV a b c d=(bH a b&&bH c d&&decide (a<=c)&&decide (b<=d))):=rfl;cases hs:bH a b
 ·go_enter lY,kR;go_wp2_with fail;refine (fB _ _ _).mono ?_;rintro e w1 ⟨rfl,A⟩;go_wp2_with fail;go_ret;refine⟨rB (by rw[H.out];simp[hs]),?_⟩
  repeat' (first|(with_reducible exact fH _ _)|(with_reducible assumption)|(with_reducible refine aH ?_ (by with_reducible assumption))|(with_reducible refine aG ?_ _)|(with_reducible refine fV ?_)|(with_reducible refine dC ?_ _)|(with_reducible refine fD ?_ ?_ _)|(simp;done)|(simp;omega)|omega)
 ·cases N:bH c d
  ·go_enter lY,kR;go_wp2_with fail;refine (fB _ _ _).mono ?_;rintro e w1 ⟨rfl,A⟩;obtain⟨J,F⟩:=wQ A;obtain⟨M,L,_,_⟩:=F.two;go_wp2_with fail;refine (fB _ _ _).mono ?_;rintro e B ⟨rfl,D⟩;go_wp2_with fail;go_ret;refine⟨rB (by rw[H.out];simp[N]),?_⟩
   repeat' (first|(with_reducible exact fH _ _)|(with_reducible assumption)|(with_reducible refine aH ?_ (by with_reducible assumption))|(with_reducible refine aG ?_ _)|(with_reducible refine fV ?_)|(with_reducible refine dC ?_ _)|(with_reducible refine fD ?_ ?_ _)|(simp;done)|(simp;omega)|omega)
  ·go_enter lY,kR;go_wp2_with fail;refine (fB _ _ _).mono ?_;rintro e w1 ⟨rfl,A⟩;obtain⟨J,F⟩:=wQ A;obtain⟨s0,s1,_,_⟩:=J.two;obtain⟨M,L,_,_⟩:=F.two;go_wp2_with fail;refine (fB _ _ _).mono ?_;rintro e B ⟨rfl,D⟩;have I:=J.keep D;have G:=F.keep D;have Y:=I.lt;have lt:=G.lt;obtain⟨W,V,_,_⟩:=I.two;obtain⟨U,T,_,_⟩:=G.two;go_wp2_with fail
   go_cut [5,6] (fun p q wc=>∃g h:Nat,p=.pointer (some ⟨g,0,none⟩)/\q=.pointer (some ⟨h,0,none⟩)/\g≠h/\B.heap.size<=g/\B.heap.size<=h/\Bk wc g #[.int .i64 a,.int .i64 b] 154/\Bk wc h #[.int .i64 c,.int .i64 d] 154/\oO B.heap.size B wc)
   case first=>
    go_region_held3 (fun s=>s.cell? ⟨w.heap.size,0,none⟩=some (.int .i64 a)/\s.cell? ⟨w.heap.size,1,none⟩=some (.int .i64 b)/\s.cell? ⟨w.heap.size+1,0,none⟩=some (.int .i64 c)/\s.cell? ⟨w.heap.size+1,1,none⟩=some (.int .i64 d)) (refine⟨?_,?_,?_,?_⟩<;>repeat' (first|with_reducible assumption|with_reducible refine By ?_|with_reducible refine vE ?_|with_reducible refine kW ?_ (by simp;omega))) (first|(go_at_call 135;refine (vU _ _ _).mono ?_;rintro e s ⟨rfl,rfl⟩))
    all_goals
     go_wp2_with fail
     go_meet
     case rel=>
      refine⟨_,_,rfl,rfl,?_,?_,?_,?_,?_,?_⟩
      ·first|omega|(simp;done)|(simp;omega)
      ·first|omega|(simp;done)|(simp;omega)
      ·first|omega|(simp;done)|(simp;omega)
      ·repeat' (first|(with_reducible refine Bk.drew ?_)|(with_reducible refine Bk.drewN ?_ _)|(with_reducible refine Bk.new _ _ ?_;(first|with_reducible rfl|omega|(simp;done)|(simp;omega)))|(with_reducible refine Bk.alloc ?_ _)|(with_reducible refine Bk2.ag ?_ _ _)|(with_reducible refine Bk2.drew ?_)|(with_reducible refine Bk2.new _ _ _ ?_;(first|with_reducible rfl|omega|(simp;done)|(simp;omega)))|(with_reducible refine Bk2.alloc ?_ _)|(with_reducible refine Bk2.keep ?_ (by with_reducible assumption))|(with_reducible refine Bk.keep ?_ (by with_reducible assumption)))
      ·repeat' (first|(with_reducible refine Bk.drew ?_)|(with_reducible refine Bk.drewN ?_ _)|(with_reducible refine Bk.new _ _ ?_;(first|with_reducible rfl|omega|(simp;done)|(simp;omega)))|(with_reducible refine Bk.alloc ?_ _)|(with_reducible refine Bk2.ag ?_ _ _)|(with_reducible refine Bk2.drew ?_)|(with_reducible refine Bk2.new _ _ _ ?_;(first|with_reducible rfl|omega|(simp;done)|(simp;omega)))|(with_reducible refine Bk2.alloc ?_ _)|(with_reducible refine Bk2.keep ?_ (by with_reducible assumption))|(with_reducible refine Bk.keep ?_ (by with_reducible assumption)))
      ·repeat' (first|(with_reducible exact fH _ _)|(with_reducible assumption)|(with_reducible refine aH ?_ (by with_reducible assumption))|(with_reducible refine aG ?_ _)|(with_reducible refine fV ?_)|(with_reducible refine dC ?_ _)|(with_reducible refine fD ?_ ?_ _)|(simp;done)|(simp;omega)|omega)
   case rest=>
    obtain⟨g,h,rfl,rfl,R,hg,Z,Q,O,S⟩:=hcut;obtain⟨g0,g1,_,_⟩:=Q.two;obtain⟨h0,h1,_,_⟩:=O.two
    by_cases c1:a<=c
    ·by_cases c2:b<=d
     ·go_wp2_with fail;refine oJ 3 ?_;rw[mJ];go_wp2_with fail
      go_quiet (fail)
      go_wp2_with fail;rw[mJ];go_wp2_with fail
      go_quiet (fail)
      go_wp2_with fail;rw[mJ];go_wp2_with fail;go_ret;refine⟨rB (by rw[H.out];simp[*]),?_⟩
      repeat' (first|(with_reducible exact fH _ _)|(with_reducible assumption)|(with_reducible refine aH ?_ (by with_reducible assumption))|(with_reducible refine aG ?_ _)|(with_reducible refine fV ?_)|(with_reducible refine dC ?_ _)|(with_reducible refine fD ?_ ?_ _)|(simp;done)|(simp;omega)|omega)
     ·go_wp2_with fail;refine oJ 3 ?_;rw[mJ];go_wp2_with fail
      go_quiet (fail)
      go_wp2_with fail;rw[mJ];go_wp2_with fail
      go_quiet (fail)
      go_wp2_with fail;go_ret;refine⟨rB (by rw[H.out];simp;omega),?_⟩
      repeat' (first|(with_reducible exact fH _ _)|(with_reducible assumption)|(with_reducible refine aH ?_ (by with_reducible assumption))|(with_reducible refine aG ?_ _)|(with_reducible refine fV ?_)|(with_reducible refine dC ?_ _)|(with_reducible refine fD ?_ ?_ _)|(simp;done)|(simp;omega)|omega)
    ·go_wp2_with fail;refine oJ 3 ?_;rw[mJ];go_wp2_with fail
     go_quiet (fail)
     go_wp2_with fail;go_ret;refine⟨rB (by rw[H.out];simp;omega),?_⟩
     repeat' (first|(with_reducible exact fH _ _)|(with_reducible assumption)|(with_reducible refine aH ?_ (by with_reducible assumption))|(with_reducible refine aG ?_ _)|(with_reducible refine fV ?_)|(with_reducible refine dC ?_ _)|(with_reducible refine fD ?_ ?_ _)|(simp;done)|(simp;omega)|omega)
attribute [local go_sem ↓] Go.wp_at_zero Go.wp_at_succ
def iE (a b c d:Int):Int:=if bH a b&&bH c d then max a c else 0
def iF (a b c d:Int):Int:=if bH a b&&bH c d then max b d else 0
theorem m6 (a b c d:Int)(w:World):
  Calls mF 130 #[tv a b,tv c d] w fun e Q=>e=.returned (tv (iE a b c d) (iF a b c d))/\oO w.heap.size w Q:=by
 have I:Hid (iE a b c d=if bH a b&&bH c d then max a c else 0):=rfl;have H:Hid (iF a b c d=if bH a b&&bH c d then max b d else 0):=rfl;cases hs:bH a b
 ·go_enter kX,iC;go_wp2_with fail;refine (fC _ _ _).mono ?_;rintro e w1 ⟨rfl,A⟩;obtain⟨G,B,s⟩:=uL A;obtain⟨L,J,N,M⟩:=s.two;go_wp2_with fail;refine nU (by simp[results,gY,go_sem,kM s,kK s];try rfl) rfl ?_;refine⟨tZ (by rw[I.out];simp[hs]) (by rw[H.out];simp[hs]),?_⟩
  repeat' (first|(with_reducible exact fH _ _)|(with_reducible assumption)|(with_reducible refine aH ?_ (by with_reducible assumption))|(with_reducible refine aG ?_ _)|(with_reducible refine fV ?_)|(with_reducible refine dC ?_ _)|(with_reducible refine fD ?_ ?_ _)|(simp;done)|(simp;omega)|omega)
 ·cases F:bH c d
  ·go_enter kX,iC;go_wp2_with fail;refine (fC _ _ _).mono ?_;rintro e w1 ⟨rfl,A⟩;obtain⟨G,B,s⟩:=uL A;obtain⟨S,R,_,_⟩:=B.two;go_wp2_with fail;refine (fC _ _ _).mono ?_;rintro e O ⟨rfl,g⟩;obtain⟨L,J,N,M⟩:=(s.keep g).two;go_wp2_with fail;refine nU (by simp[results,gY,go_sem,kM (s.keep g),kK (s.keep g)];try rfl) rfl ?_;refine⟨tZ (by rw[I.out];simp[F]) (by rw[H.out];simp[F]),?_⟩
   repeat' (first|(with_reducible exact fH _ _)|(with_reducible assumption)|(with_reducible refine aH ?_ (by with_reducible assumption))|(with_reducible refine aG ?_ _)|(with_reducible refine fV ?_)|(with_reducible refine dC ?_ _)|(with_reducible refine fD ?_ ?_ _)|(simp;done)|(simp;omega)|omega)
  ·go_enter kX,iC;go_wp2_with fail;refine (fC _ _ _).mono ?_;rintro e w1 ⟨rfl,A⟩;obtain⟨G,B,s⟩:=uL A;obtain⟨s0,s1,_,_⟩:=G.two;obtain⟨S,R,_,_⟩:=B.two;go_wp2_with fail;refine (fC _ _ _).mono ?_;rintro e O ⟨rfl,g⟩;obtain⟨W,V,_,_⟩:=(G.keep g).two;obtain⟨U,T,_,_⟩:=(B.keep g).two;have D:=s.keep g;obtain⟨L,J,N,M⟩:=D.two;go_wp2_with fail
   all_goals
    refine nU (by simp[results,gY,go_sem,kM D,kK D];try rfl) rfl ?_;refine⟨tZ (by rw[I.out];simp[hs,F];omega) (by rw[H.out];simp[hs,F];omega),?_⟩
    repeat' (first|(with_reducible exact fH _ _)|(with_reducible assumption)|(with_reducible refine aH ?_ (by with_reducible assumption))|(with_reducible refine aG ?_ _)|(with_reducible refine fV ?_)|(with_reducible refine dC ?_ _)|(with_reducible refine fD ?_ ?_ _)|(simp;done)|(simp;omega)|omega)
theorem rP (a b c d:Int)(w:World):
  Calls mF 98 #[tv a b,tv c d] w fun e F=>e=.returned (tv (iE a b c d) (iF a b c d))/\oO w.heap.size w F:=by
 have T:Hid (iE a b c d=if bH a b&&bH c d then max a c else 0):=rfl;have S:Hid (iF a b c d=if bH a b&&bH c d then max b d else 0):=rfl;cases hs:bH a b
 ·go_enter lI,jU;go_wp2_with fail;refine (fB _ _ _).mono ?_;rintro e w1 ⟨rfl,D⟩;obtain⟨R,H,B⟩:=uL D;obtain⟨W,V,f0,f1⟩:=B.two;go_wp2_with fail;refine nU (by simp[results,gZ,go_sem,kM B,kK B];try rfl) rfl ?_;refine⟨tZ (by rw[T.out];simp[hs]) (by rw[S.out];simp[hs]),?_⟩
  repeat' (first|(with_reducible exact fH _ _)|(with_reducible assumption)|(with_reducible refine aH ?_ (by with_reducible assumption))|(with_reducible refine aG ?_ _)|(with_reducible refine fV ?_)|(with_reducible refine dC ?_ _)|(with_reducible refine fD ?_ ?_ _)|(simp;done)|(simp;omega)|omega)
 ·cases J:bH c d
  ·go_enter lI,jU;go_wp2_with fail;refine (fB _ _ _).mono ?_;rintro e w1 ⟨rfl,D⟩;obtain⟨R,H,B⟩:=uL D;obtain⟨t0,t1,_,_⟩:=H.two;go_wp2_with fail;refine (fB _ _ _).mono ?_;rintro e A ⟨rfl,s⟩;obtain⟨W,V,f0,f1⟩:=(B.keep s).two;go_wp2_with fail;refine nU (by simp[results,gZ,go_sem,kM (B.keep s),kK (B.keep s)];try rfl) rfl ?_;refine⟨tZ (by rw[T.out];simp[J]) (by rw[S.out];simp[J]),?_⟩
   repeat' (first|(with_reducible exact fH _ _)|(with_reducible assumption)|(with_reducible refine aH ?_ (by with_reducible assumption))|(with_reducible refine aG ?_ _)|(with_reducible refine fV ?_)|(with_reducible refine dC ?_ _)|(with_reducible refine fD ?_ ?_ _)|(simp;done)|(simp;omega)|omega)
  ·go_enter lI,jU;go_wp2_with fail;refine (fB _ _ _).mono ?_;rintro e w1 ⟨rfl,D⟩;obtain⟨R,H,B⟩:=uL D;obtain⟨t0,t1,_,_⟩:=H.two;go_wp2_with fail;refine (fB _ _ _).mono ?_;rintro e A ⟨rfl,s⟩;have x7:=R.keep s;have x6:=H.keep s;have O:=B.keep s;have ls:=O.lt;obtain⟨x0,x1,_,_⟩:=x7.two;obtain⟨y0,y1,_,_⟩:=x6.two;go_wp2_with fail
   go_cut [5,6] (fun p q wc=>∃g h:Nat,p=.pointer (some ⟨g,0,none⟩)/\q=.pointer (some ⟨h,0,none⟩)/\g≠h/\A.heap.size<=g/\A.heap.size<=h/\Bk wc g #[.int .i64 a,.int .i64 b] 154/\Bk wc h #[.int .i64 c,.int .i64 d] 154/\oO A.heap.size A wc)
   case first=>
    go_region_held3 (fun F=>F.cell? ⟨w.heap.size,0,none⟩=some (.int .i64 a)/\F.cell? ⟨w.heap.size,1,none⟩=some (.int .i64 b)/\F.cell? ⟨w.heap.size+1,0,none⟩=some (.int .i64 c)/\F.cell? ⟨w.heap.size+1,1,none⟩=some (.int .i64 d)) (refine⟨?_,?_,?_,?_⟩<;>repeat' (first|with_reducible assumption|with_reducible refine By ?_|with_reducible refine vE ?_|with_reducible refine kW ?_ (by simp;omega))) (first|(go_at_call 135;refine (vU _ _ _).mono ?_;rintro e F ⟨rfl,rfl⟩))
    all_goals
     go_wp2_with fail
     go_meet
     case rel=>
      refine⟨_,_,rfl,rfl,?_,?_,?_,?_,?_,?_⟩
      ·first|omega|(simp;done)|(simp;omega)
      ·first|omega|(simp;done)|(simp;omega)
      ·first|omega|(simp;done)|(simp;omega)
      ·repeat' (first|(with_reducible refine Bk.drew ?_)|(with_reducible refine Bk.drewN ?_ _)|(with_reducible refine Bk.new _ _ ?_;(first|with_reducible rfl|omega|(simp;done)|(simp;omega)))|(with_reducible refine Bk.alloc ?_ _)|(with_reducible refine Bk2.ag ?_ _ _)|(with_reducible refine Bk2.drew ?_)|(with_reducible refine Bk2.new _ _ _ ?_;(first|with_reducible rfl|omega|(simp;done)|(simp;omega)))|(with_reducible refine Bk2.alloc ?_ _)|(with_reducible refine Bk2.keep ?_ (by with_reducible assumption))|(with_reducible refine Bk.keep ?_ (by with_reducible assumption)))
      ·repeat' (first|(with_reducible refine Bk.drew ?_)|(with_reducible refine Bk.drewN ?_ _)|(with_reducible refine Bk.new _ _ ?_;(first|with_reducible rfl|omega|(simp;done)|(simp;omega)))|(with_reducible refine Bk.alloc ?_ _)|(with_reducible refine Bk2.ag ?_ _ _)|(with_reducible refine Bk2.drew ?_)|(with_reducible refine Bk2.new _ _ _ ?_;(first|with_reducible rfl|omega|(simp;done)|(simp;omega)))|(with_reducible refine Bk2.alloc ?_ _)|(with_reducible refine Bk2.keep ?_ (by with_reducible assumption))|(with_reducible refine Bk.keep ?_ (by with_reducible assumption)))
      ·repeat' (first|(with_reducible exact fH _ _)|(with_reducible assumption)|(with_reducible refine aH ?_ (by with_reducible assumption))|(with_reducible refine aG ?_ _)|(with_reducible refine fV ?_)|(with_reducible refine dC ?_ _)|(with_reducible refine fD ?_ ?_ _)|(simp;done)|(simp;omega)|omega)
   case rest=>
    obtain⟨g,h,rfl,rfl,Z,hg,hh,bg,bh,L⟩:=hcut;have y2:=O.keep L;obtain⟨g0,g1,z5,z4⟩:=bg.two;obtain⟨h0,h1,_,_⟩:=bh.two;go_wp2_with fail;refine oJ 3 ?_;rw[mJ];go_wp2_with fail
    go_region
    have Y:h≠g:=Ne.symm Z;generalize hM:(if a<c then c else a)=M;have HM:Hid (M=max a c):=by show M=max a c;rw[<- hM];split<;>omega
    clear hM;have Q:=(bg.set 0 (.int .i64 M)).drew;have y3:=(bh.apart (p:=⟨g,0,none⟩) Y (.int .i64 M)).drew;have x9:=(y2.apart (p:=⟨g,0,none⟩) (by simp;omega) (.int .i64 M)).drew;have x2:oO A.heap.size A (wc.setCell ⟨g,0,none⟩ (.int .i64 M)).drew:=(L.setCell hg _).drew;generalize (wc.setCell ⟨g,0,none⟩ (.int .i64 M)).drew=U at*;obtain⟨k0,k1,z3,z2⟩:=Q.two;obtain⟨l0,l1,_,_⟩:=y3.two;go_wp2_with fail;rw[mJ];go_wp2_with fail
    go_region
    generalize N:(if b<d then d else b)=G;have y7:Hid (G=max b d):=by show G=max b d;rw[<- N];split<;>omega
    clear N;have y5:=(Q.set 1 (.int .i64 G)).drew;have x8:=(x9.apart (p:=⟨g,1,none⟩) (by simp;omega) (.int .i64 G)).drew;have z1:oO A.heap.size A (U.setCell ⟨g,1,none⟩ (.int .i64 G)).drew:=(x2.setCell hg _).drew;generalize (U.setCell ⟨g,1,none⟩ (.int .i64 G)).drew=we at*;obtain⟨m0,m1,_,_⟩:=y5.two;go_wp2_with fail;rw[mJ];go_wp2_with fail;refine (Hk _ _ _).mono ?_;rintro e wf ⟨rfl,h9⟩;have I:=x8.keep h9;obtain⟨W,V,f0,f1⟩:=I.two;go_wp2_with fail;refine nU (by simp[results,gZ,go_sem,kM I,kK I];try rfl) rfl ?_;refine⟨tZ (by rw[T.out,HM.out];simp[hs,J]) (by rw[S.out,y7.out];simp[hs,J]),?_⟩
    repeat' (first|(with_reducible exact fH _ _)|(with_reducible assumption)|(with_reducible refine aH ?_ (by with_reducible assumption))|(with_reducible refine aG ?_ _)|(with_reducible refine fV ?_)|(with_reducible refine dC ?_ _)|(with_reducible refine fD ?_ ?_ _)|(simp;done)|(simp;omega)|omega)
attribute [local go_sem ↓] Go.wp_at_zero Go.wp_at_succ
end Go.Proofs.YtbdpcngcbnoioaaGreatDoor
