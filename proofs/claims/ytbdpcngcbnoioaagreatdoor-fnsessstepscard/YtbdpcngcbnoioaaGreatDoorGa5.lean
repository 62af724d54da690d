import Derived.Test.YtbdpcngcbnoioaaGreatDoorGa1
import Derived.Deep.AppendLies
import Derived.ProofKit
import Derived.OpenShut
import Derived.ShutString
import Derived.ChangeOld
import Derived.Below
import Derived.Lib.SmallJoins
import Derived.Deep.SlicePairs
set_option maxHeartbeats 4000000
namespace Go.Proofs.YtbdpcngcbnoioaaGreatDoor
open Go.RowKit
open Go.RowKit.Below renaming refl->fD,setCell->fH,drew->fV
open Go renaming wpQuiet_nil->gY,Value->gZ,World->iC,IntKind->jU,TypeId->kR
open Go.RowKit renaming Below->kX
open _root_.Array renaming getElem?_setIfInBounds->lI
variable {c:Array gZ}{j k:Nat}{l:LI}{t:kR}{v:gZ}{w:iC}
theorem mW:(Tryz.prog.info? 32).map (fun i=>(i.zero,i.size,i.bytes))=some (some (.agg #[.int .i64 0,.int .i64 0]),2,16):=by kernel_rfl
theorem vS (w:iC)(x y:gZ)(t:kR):∀j u,[x,y][j]?=some u->(w.alloc (.cells #[x,y] t)).cell? ((⟨w.heap.size,0,none⟩:Addr).add j)=some u:=by
 intro j u a
 match j,a with
 | 0,a=>simp at a;subst a;simp[Addr.add]
 | 1,a=>simp at a;subst a;simp[Addr.add]
theorem mV (a b:Int):∀u∈[gZ.int .i64 a,gZ.int .i64 b],u.oneCell'=true:=by
 intro u g;simp at g;rcases g with rfl|rfl<;>rfl
theorem i7 {B:Nat}{e:kR}{size:Nat}{n:Nat}{xs:List gZ}(h:w.ownsRow B e size v n xs):∀k,v.ownBlock=some k->B<=k:=by
 obtain⟨_,h2⟩:=h;intro k a
 rcases h2 with⟨rfl,_⟩|⟨g,A,s,rfl,hg,_⟩
 ·simp[gZ.ownBlock]at a
 ·simp[gZ.ownBlock]at a;omega
theorem lZ (w:iC)(e:kR)(size:Nat):(w.alloc (.cells #[] e)).ownsRow w.heap.size e size (.slice (some ⟨w.heap.size,0,none⟩) 0 0) 0 []:=
 ⟨by simp,.inr ⟨w.heap.size,0,#[],rfl,Nat.le_refl _,heap_alloc_new w _,Nat.le_refl _,by unfold maxLen;omega,by simp,by simp⟩⟩
def tA (l:LI)(i:Nat):Int:=(l.getD i (0,0)).1
def tB (l:LI)(i:Nat):Int:=(l.getD i (0,0)).2
def Ts (w:iC)(v:gZ)(l:LI):Prop:=
 ∃a cap,v=.slice a l.length cap/\l.length<=cap/\cap<=maxLen/\l.length<=2097152/\∀i:Nat,i<l.length->∃g off,a=some ⟨g,off,none⟩/\g<w.heap.size /\
  w.cell? ⟨g,off+i*2,none⟩=some (.int .i64 (tA l i))/\w.cell? ⟨g,off+i*2+1,none⟩=some (.int .i64 (tB l i))
theorem Ts.keep {w1:iC}(h:Ts w v l)(s:kX w.heap.size w w1):Ts w1 v l:=by
 obtain⟨a,A,rfl,h1,h2,h3,h4⟩:=h;refine⟨a,A,rfl,h1,h2,h3,fun i hi=>?_⟩;obtain⟨g,off,rfl,hg,D,c1⟩:=h4 i hi;exact⟨g,off,rfl,Nat.lt_of_lt_of_le hg s.size,cB s D,cB s c1⟩
def eW (l:LI)(i:Nat):Bool:=bH (tA l i) (tB l i)&&(decide (i=0)||(decide (tA l (i-1)<tA l i)&&decide (tB l i<tB l (i-1))))
def cC (l:LI):Bool:=(List.range l.length).all (eW l)
theorem nA (a:k<l.length)(h:eW l k=false):cC l=false:=by
 unfold cC;rw[List.all_eq_false];exact⟨k,by simpa using a,by simp[h]⟩
theorem AG (h:∀j,j<l.length->eW l j=true):cC l=true:=by
 unfold cC;rw[List.all_eq_true];intro j a;exact h j (by simpa using a)
theorem DO (h:cC l=true)(a:j<l.length):eW l j=true:=by
 unfold cC at h;rw[List.all_eq_true]at h;exact h j (by simpa using a)
theorem zR {X Y:Int}(g:tA l 0=X)(a:tB l 0=Y):eW l 0=bH X Y:=by simp[eW,g,a]
theorem zY {m:Nat}{X Y A s:Int}(F:tA l (m+1)=X)(D:tB l (m+1)=Y)(g:tA l m=A)(a:tB l m=s):
  eW l (m+1)=(bH X Y&&(decide (A<X)&&decide (Y<s))):=by simp[eW,F,D,g,a]
theorem Ej (h:eW l 0=true)(a:j<1):eW l j=true:=by
 obtain rfl:j=0:=by omega
 exact h
theorem CS (h:∀j,j<k->eW l j=true)(a:eW l k=true)(g:j<k+1):eW l j=true:=by
 by_cases e:j=k
 ·subst e;exact a
 ·exact h j (by omega)
theorem oC (v:gZ)(l:LI)(w:iC)(h:Ts w v l):
  Calls Tryz.prog 80 #[v] w fun e w'=>e=.returned (.bool (cC l))/\kX w.heap.size w w':=by
 obtain⟨a,y2,rfl,hc,hm,hn,F⟩:=h;unfold maxLen at hm;have HC:=(show Hid _ from F);clear F;go_enter Tryz.func80,Tryz.ntmps80;go_wp2_with fail
 go_loopw [7] (fun i wr=>∃k:Nat,k<=l.length/\i=.int .i64 k/\(∀j,j<k->eW l j=true)/\kX w.heap.size w wr) (fun i _=>l.length-(intOf i).toNat)
 case atStart=>exact⟨0,by omega,rfl,fun j I=>by omega,fD _ _⟩
 case round=>
  obtain⟨k,hk,rfl,D,N⟩:=hrel
  by_cases H:k<l.length
  ·obtain⟨g,off,rfl,hg,c0,c1⟩:=HC.out k H;generalize hX:tA l k=X at*;generalize Z:tB l k=Y at*;have Q:Hid (tA l k=X):=hX;have O:Hid (tB l k=Y):=Z;clear hX Z;have d0:=cB N c0;have d1:=cB N c1;have HA:=(show Hid _ from D);clear D c0 c1;go_wp2_with fail;refine (fB _ _ _).mono ?_;rintro e w1 ⟨rfl,W⟩;have bt:=(Bk.new (w:=wr) #[.int .i64 X,.int .i64 Y] 32 rfl).keep W;have A:kX w.heap.size w w1:=by
    repeat' (first|(with_reducible exact fD _ _)|(with_reducible assumption)|(with_reducible refine aH ?_ (by with_reducible assumption))|(with_reducible refine aG ?_ _)|(with_reducible refine fV ?_)|(with_reducible refine dC ?_ _)|(with_reducible refine fH ?_ ?_ _)|(simp;done)|(simp;omega)|omega)
   cases ho:bH X Y
   ·have s:Hid (cC l=false):=nA H (by simp[eW,Q.out,O.out,ho]);go_wp2_with fail;go_ret;exact⟨rB s.out.symm,A⟩
   ·obtain⟨t0,t1,_,_⟩:=bt.two
    rcases k with _|m
    ·have G:eW l 0=true:=by rw[zR Q.out O.out];exact ho
     go_wp2_with fail
     go_quiet (fail)
     go_wp2_with fail;exact⟨⟨1,by omega,rfl,fun j I=>Ej G I,dC A _⟩,by simp[intOf];omega⟩
    ·have U:m<l.length:=by omega
     have y0:(0:Int)<=(m:Int):=by omega
     have x9:(m:Int)<(l.length:Int):=by omega
     have x8:(l.length:Int)<=2097152:=by omega
     have iw:jU.i64.wrap (m:Int)=(m:Int):=by rw[jU.wrap_i64];omega
     obtain⟨g',x3,V,y1,S,R⟩:=HC.out m U;simp at V;obtain⟨rfl,rfl⟩:=V;generalize M:tA l m=X' at *;generalize L:tB l m=Y' at *;have G:=zY Q.out O.out M L;have J:=(show Hid _ from G);clear M L G;have q0:=cB A S;have q1:=cB A R;clear S R
     by_cases h1:X'<X
     ·by_cases h2:Y<Y'
      ·have T:Hid (eW l (m+1)=true):=by show _=true;rw[J.out,ho];simp[h1,h2]
       go_wp2_with fail
       go_quiet (fail)
       go_wp2_with fail;go_roundw
       case rel=>exact⟨m+1+1,by omega,by go_num,fun j I=>CS HA.out T.out I,dC A _⟩
       case measure=>simp[intOf];omega
      ·have s:Hid (cC l=false):=nA H (by rw[J.out];simp[h2]);go_wp2_with fail
       go_quiet (fail)
       go_wp2_with fail;go_ret;exact⟨rB s.out.symm,dC A _⟩
     ·have s:Hid (cC l=false):=nA H (by rw[J.out];simp[h1]);go_wp2_with fail
      go_quiet (fail)
      go_wp2_with fail;go_ret;exact⟨rB s.out.symm,dC A _⟩
  ·have s:Hid (cC l=true):=AG fun j I=>D j (by omega);clear D;go_wp2_with fail;go_ret;exact⟨rB s.out.symm,N⟩
theorem kA {a b:Int}{r:Bool}(h:bH a b=r)(w:iC):Calls Tryz.prog 65 #[tv a b] w fun e g=>e=.returned (.bool r)/\kX w.heap.size w g:=by
 rw[<- h];exact fC a b w
theorem tI (v:gZ)(l:LI)(w:iC)(h:Ts w v l):
  Calls Tryz.prog 68 #[v] w fun e w'=>e=.returned (.bool (cC l))/\kX w.heap.size w w':=by
 obtain⟨a,y2,rfl,hc,hm,hn,G⟩:=h;unfold maxLen at hm;have HC:=(show Hid _ from G);clear G;go_enter Tryz.func68,Tryz.ntmps68;go_wp2_with fail
 go_loopw [3] (fun i wr=>∃k:Nat,k<=l.length/\i=.int .i64 k/\(∀j,j<k->eW l j=true)/\kX w.heap.size w wr) (fun i _=>l.length-(intOf i).toNat)
 case atStart=>exact⟨0,by omega,rfl,fun j L=>by omega,fD _ _⟩
 case round=>
  obtain⟨k,hk,rfl,F,D⟩:=hrel
  by_cases J:k<l.length
  ·obtain⟨g,off,rfl,hg,H,c1⟩:=HC.out k J;generalize hX:tA l k=X at*;generalize hY:tB l k=Y at*;have U:Hid (tA l k=X):=hX;have T:Hid (tB l k=Y):=hY;clear hX hY;have HA:=(show Hid _ from F);clear F;have hne:=jC wr;have ik:((k:Int)<(l.length:Int)):=by omega
   cases ho:bH X Y
   ·have d0:∀p:dH wr,p.ww.cell? ⟨g,off+k*2,none⟩=some (.int .i64 X):=fun p=>cB p.below (cB D H);have d1:∀p:dH wr,p.ww.cell? ⟨g,off+k*2+1,none⟩=some (.int .i64 Y):=fun p=>cB p.below (cB D c1);have A:Hid (cC l=false):=nA J (by simp[eW,U.out,T.out,ho]);clear H c1;go_wp2_with fail
    (refine jJ (by kernel_rfl) (by kernel_rfl) ?_;(repeat (go_big_quiet_step ((first|(go_at_call 65;exact iJ (kA (by with_reducible assumption) _))))));refine gY ?_)
    intro w1 s
    replace s:=jM s
    go_wp2_with fail;go_ret;refine⟨rB A.out.symm,?_⟩
    repeat' (first|(with_reducible exact fD _ _)|(with_reducible assumption)|(with_reducible refine aH ?_ (by with_reducible assumption))|(with_reducible refine aG ?_ _)|(with_reducible refine fV ?_)|(with_reducible refine dC ?_ _)|(with_reducible refine fH ?_ ?_ _)|(simp;done)|(simp;omega)|omega)
   ·rcases k with _|m
    ·have I:eW l 0=true:=by rw[zR U.out T.out];exact ho
     simp only[Nat.zero_mul,Nat.add_zero]at H c1;have d0:∀p:dH wr,p.ww.cell? ⟨g,off,none⟩=some (.int .i64 X):=fun p=>cB p.below (cB D H);have d1:∀p:dH wr,p.ww.cell? ⟨g,off+1,none⟩=some (.int .i64 Y):=fun p=>cB p.below (cB D c1);clear H c1;go_wp2_with fail
     (refine jJ (by kernel_rfl) (by kernel_rfl) ?_;(repeat (go_big_quiet_step ((first|(go_at_call 65;exact iJ (kA (by with_reducible assumption) _))))));refine gY ?_)
     intro w1 s
     replace s:=jM s
     have M:=aH D s;go_wp2_with fail;exact⟨⟨1,by omega,rfl,fun j L=>Ej I L,M⟩,by simp[intOf];omega⟩
    ·have h9:m<l.length:=by omega
     have y0:(0:Int)<=(m:Int):=by omega
     have x9:(m:Int)<(l.length:Int):=by omega
     have x8:(l.length:Int)<=2097152:=by omega
     have iw:jU.i64.wrap (m:Int)=(m:Int):=by rw[jU.wrap_i64];omega
     obtain⟨g',x6,he,y1,W,V⟩:=HC.out m h9;simp at he;obtain⟨rfl,rfl⟩:=he;generalize S:tA l m=Q at *;generalize R:tB l m=O at *;have I:=zY U.out T.out S R;have N:=(show Hid _ from I);clear S R I;have d0:∀p:dH wr,p.ww.cell? ⟨g,off+(m+1)*2,none⟩=some (.int .i64 X):=fun p=>cB p.below (cB D H);have d1:∀p:dH wr,p.ww.cell? ⟨g,off+(m+1)*2+1,none⟩=some (.int .i64 Y):=fun p=>cB p.below (cB D c1);have e0:∀p:dH wr,p.ww.cell? ⟨g,off+m*2,none⟩=some (.int .i64 Q):=fun p=>cB p.below (cB D W);have e1:∀p:dH wr,p.ww.cell? ⟨g,off+m*2+1,none⟩=some (.int .i64 O):=fun p=>cB p.below (cB D V);clear H c1 W V
     by_cases h1:Q<X
     ·by_cases h2:Y<O
      ·have Z:Hid (eW l (m+1)=true):=by show _=true;rw[N.out,ho];simp[h1,h2]
       have n1:decide (X<=Q)=false:=by simp;omega
       have n2:decide (O<=Y)=false:=by simp;omega
       go_wp2_with fail
       (refine jJ (by kernel_rfl) (by kernel_rfl) ?_;(repeat (go_big_quiet_step ((first|(go_at_call 65;exact iJ (kA (by with_reducible assumption) _))))));refine gY ?_)
       intro w1 s
       replace s:=jM s
       have M:=aH D s;go_wp2_with fail;go_roundw
       case rel=>exact⟨m+1+1,by omega,by go_num,fun j L=>CS HA.out Z.out L,M⟩
       case measure=>simp[intOf];omega
      ·have A:Hid (cC l=false):=nA J (by rw[N.out];simp[h2]);have n1:decide (X<=Q)=false:=by simp;omega
       have n2:decide (O<=Y)=true:=by simp;omega
       go_wp2_with fail
       (refine jJ (by kernel_rfl) (by kernel_rfl) ?_;(repeat (go_big_quiet_step ((first|(go_at_call 65;exact iJ (kA (by with_reducible assumption) _))))));refine gY ?_)
       intro w1 s
       replace s:=jM s
       go_wp2_with fail;go_ret;refine⟨rB A.out.symm,?_⟩
       repeat' (first|(with_reducible exact fD _ _)|(with_reducible assumption)|(with_reducible refine aH ?_ (by with_reducible assumption))|(with_reducible refine aG ?_ _)|(with_reducible refine fV ?_)|(with_reducible refine dC ?_ _)|(with_reducible refine fH ?_ ?_ _)|(simp;done)|(simp;omega)|omega)
     ·have A:Hid (cC l=false):=nA J (by rw[N.out];simp[h1]);go_wp2_with fail
      (refine jJ (by kernel_rfl) (by kernel_rfl) ?_;(repeat (go_big_quiet_step ((first|(go_at_call 65;exact iJ (kA (by with_reducible assumption) _))))));refine gY ?_)
      intro w1 s
      replace s:=jM s
      go_wp2_with fail;go_ret;refine⟨rB A.out.symm,?_⟩
      repeat' (first|(with_reducible exact fD _ _)|(with_reducible assumption)|(with_reducible refine aH ?_ (by with_reducible assumption))|(with_reducible refine aG ?_ _)|(with_reducible refine fV ?_)|(with_reducible refine dC ?_ _)|(with_reducible refine fH ?_ ?_ _)|(simp;done)|(simp;omega)|omega)
  ·have A:Hid (cC l=true):=AG fun j L=>F j (by omega);clear F;go_wp2_with fail;go_ret;exact⟨rB A.out.symm,D⟩
theorem Bk.cell (h:Bk w k c t){i:Nat}(hi:c[i]?=some v):w.cell? ⟨k,i,none⟩=some v:=by
 unfold Bk at h;simp[iC.cell?,h,hi]
theorem Bk.free (h:Bk w k c t)(i:Nat):w.frozen? ⟨k,i,none⟩=false:=by
 unfold Bk at h;simp[iC.frozen?,h]
def dX (c:Array gZ)(l:LI)(k:Nat):Prop:=
 ∀i,i<k->c[i*2]?=some (.int .i64 (tA l i))/\c[i*2+1]?=some (.int .i64 (tB l i))
theorem dX.step (h:dX c l k)(hs:k*2+1<c.size):
  dX ((c.setIfInBounds (k*2) (.int .i64 (tA l k))).setIfInBounds (k*2+1) (.int .i64 (tB l k))) l (k+1):=by
 intro i hi
 by_cases e:i=k
 ·subst e;simp[lI];omega
 ·obtain⟨h1,h2⟩:=h i (by omega);have n1:¬k*2+1=i*2:=by omega
  have n2:¬k*2=i*2:=by omega
  have g:¬k*2+1=i*2+1:=by omega
  have a:¬k*2=i*2+1:=by omega
  simp only[lI,n1,n2,g,a,if_false];exact⟨h1,h2⟩
theorem Ts.cY {g a:Nat}(h:Bk w g c t)(hf:dX c l l.length)(s:l.length<=a)(hm:a<=maxLen)(hn:l.length<=2097152):
  Ts w (.slice (some ⟨g,0,none⟩) l.length a) l:=by
 refine⟨_,a,rfl,s,hm,hn,fun i hi=>⟨g,0,rfl,h.lt,?_,?_⟩⟩
 ·rw[Nat.zero_add];exact h.cell (hf i hi).1
 ·rw[Nat.zero_add];exact h.cell (hf i hi).2
open Go.ChangeShapes Go.WideShapes Go.ChangeAt Go.Joins
end Go.Proofs.YtbdpcngcbnoioaaGreatDoor
