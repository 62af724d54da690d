import Derived.Test.YtbdpcngcbnoioaaGreatDoorGa1
import Derived.Deep.AppendLies
import Derived.ProofKit
import Derived.OpenShut
import Derived.ShutString
import Derived.ChangeOld
import Derived.Below
import Derived.Lib.SmallJoins
import Derived.Deep.SlicePairs
set_option maxRecDepth 100000
set_option maxHeartbeats 4000000
namespace Go.Proofs.YtbdpcngcbnoioaaGreatDoor
open Go.RowKit
open Go.RowKit.Below renaming refl->fM,setCell->fQ,drew->gD
open Go renaming Value->gM,wpQuiet_nil->gQ,World->gX,TypeId->iM,IntKind->iP,Calls->jB
open Go.RowKit renaming Below->jO
open _root_.List renaming getElem?_append_right->mO,getElem?_append_left->nA,all_eq_true->nB,range->nT
variable {B j k:Nat}{e:iM}{l:LI}{v:gM}{w:gX}
def tc (n:Nat):List gM:=(nT n).flatMap fun i=>[.int .i64 ((i / 8:Nat):Int),.int .i64 ((i%8:Nat):Int)]
theorem CZ (n:Nat):tc (n+1)=tc n++[.int .i64 ((n / 8:Nat):Int),.int .i64 ((n%8:Nat):Int)]:=by
 unfold tc;rw[List.range_succ,List.flatMap_append];simp
theorem Lo (n:Nat):(tc n).length=n*2:=by
 induction n with
 | zero=>rfl
 | succ n ih=>rw[CZ,List.length_append,ih];simp;omega
theorem Ql (n i:Nat)(h:i<n):(tc n)[2*i]?=some (.int .i64 ((i / 8:Nat):Int))/\(tc n)[2*i+1]?=some (.int .i64 ((i%8:Nat):Int)):=by
 induction n with
 | zero=>omega
 | succ n ih=>
  rw[CZ];have hl:=Lo n
  by_cases hi:i<n
  ·obtain⟨h1,h2⟩:=ih hi;rw[nA (by omega),nA (by omega)];exact⟨h1,h2⟩
  ·have:i=n:=by omega
   subst this;rw[mO (by omega),mO (by omega)];have g:2*i-(tc i).length=0:=by omega
   have a:2*i+1-(tc i).length=1:=by omega
   rw[g,a];simp
theorem rV:(Tryz.prog.info? 32).map (fun i=>(i.zero,i.size,i.bytes))=some (some (.agg #[.int .i64 0,.int .i64 0]),2,16):=by kernel_rfl
theorem BU (w:gX)(x y:gM)(t:iM):∀j u,[x,y][j]?=some u->(w.alloc (.cells #[x,y] t)).cell? ((⟨w.heap.size,0,none⟩:Addr).add j)=some u:=by
 intro j u a
 match j,a with
 | 0,a=>simp at a;subst a;simp[Addr.add]
 | 1,a=>simp at a;subst a;simp[Addr.add]
theorem rY (a b:Int):∀u∈[gM.int .i64 a,gM.int .i64 b],u.oneCell'=true:=by
 intro u g;simp at g;rcases g with rfl|rfl<;>rfl
theorem kK {size:Nat}{n:Nat}{xs:List gM}(h:w.ownsRow B e size v n xs):∀k,v.ownBlock=some k->B<=k:=by
 obtain⟨_,h2⟩:=h;intro k a
 rcases h2 with⟨rfl,_⟩|⟨g,A,s,rfl,hg,_⟩
 ·simp[gM.ownBlock]at a
 ·simp[gM.ownBlock]at a;omega
theorem N1 {size:Nat}{n:Nat}{xs:List gM}(h:w.ownsRow B e size v n xs)(hn:0<n):∃g a,v=.slice (some ⟨g,0,none⟩) n a/\B<=g:=by
 obtain⟨_,h2⟩:=h
 rcases h2 with⟨_,h0⟩|⟨g,a,s,rfl,hg,_⟩
 ·omega
 ·exact⟨g,a,rfl,hg⟩
theorem kZ (w:gX)(e:iM)(size:Nat):(w.alloc (.cells #[] e)).ownsRow w.heap.size e size (.slice (some ⟨w.heap.size,0,none⟩) 0 0) 0 []:=
 ⟨by simp,.inr ⟨w.heap.size,0,#[],rfl,Nat.le_refl _,heap_alloc_new w _,Nat.le_refl _,by unfold maxLen;omega,by simp,by simp⟩⟩
theorem Cs {g a:Nat}(h:w.ownsRow B e 2 (.slice (some ⟨g,0,none⟩) 64 a) 64 (tc 64))(s:k<64):
  w.cell? ⟨g,k*2,none⟩=some (.int .i64 ((k / 8:Nat):Int))/\w.cell? ⟨g,k*2+1,none⟩=some (.int .i64 ((k%8:Nat):Int)):=by
 obtain⟨h1,h2⟩:=Ql 64 k s;rw[h.cellAt _ (by omega),h.cellAt _ (by omega),Nat.mul_comm k 2];exact⟨h1,h2⟩
theorem DR (w:gX):
  jB Tryz.prog 19 #[] w fun e L=>∃g D:Nat,e=.returned (.slice (some ⟨g,0,none⟩) 64 D)/\L.ownsRow w.heap.size 32 2 (.slice (some ⟨g,0,none⟩) 64 D) 64 (tc 64)/\w.heap.size<=g/\jO w.heap.size w L:=by
 obtain⟨i0,hi,Q,O,M⟩:=info_parts rV;go_enter Tryz.func19,Tryz.ntmps19
 go_wp2
 go_loopw [1,2] (fun v a wr=>∃k:Nat,k<=8/\a=.int .i64 k/\wr.ownsRow w.heap.size 32 2 v (8*k) (tc (8*k))/\jO w.heap.size w wr) (fun _ a _=>8-(intOf a).toNat)
 case atStart=>
  refine⟨0,by omega,rfl,kZ w _ _,?_⟩
  repeat' (first|(with_reducible exact fM _ _)|(with_reducible assumption)|(with_reducible refine aG ?_ (by with_reducible assumption))|(with_reducible refine aH ?_ _)|(with_reducible refine gD ?_)|(with_reducible refine dV ?_ _)|(with_reducible refine fQ ?_ ?_ _)|(simp;done)|(simp;omega)|omega)
 case round=>
  obtain⟨k,Z,rfl,s,A⟩:=hrel
  by_cases U:k<8
  ·have W:decide ((k:Int)<=7)=true:=by simp;omega
   go_wp2
   go_loopw [1,3] (fun v b J=>∃j:Nat,j<=8/\b=.int .i64 j/\J.ownsRow w.heap.size 32 2 v (8*k+j) (tc (8*k+j))/\jO w.heap.size w J) (fun _ b _=>8-(intOf b).toNat)
   case atStart=>exact⟨0,by omega,rfl,s,A⟩
   case round=>
    clear s A;obtain⟨j,hj,rfl,s,A⟩:=hrel
    by_cases Y:j<8
    ·have hs:=A.size
     go_wp2_with (at_builtin;refine wpList_append_lies _ rfl _ _ 27 rfl w.heap.size 32 i0 (.agg #[.int .i64 0,.int .i64 0]) 2 16 Tryz.underlying27 hi Q O M rfl (by decide) _ _ _ rfl (s.alloc _) ⟨wr.heap.size,0,none⟩ 1 1 [.int .i64 (k:Int),.int .i64 (j:Int)] rfl rfl (BU _ _ _ _) (rY _ _) (by omega) (by unfold maxLen;omega) (by omega) (by simp;omega) (wr.heap.size+1) (by simp) ?_;intro g D w1 G H hat V)
     have R:jO w.heap.size w w1:=(aH A _).grown H (by simp;omega) (kK s);have T:(8*k+j) / 8=k:=by omega
     have S:(8*k+j)%8=j:=by omega
     have I:=CZ (8*k+j);rw[T,S]at I;rw[<- I]at G;clear I T S s H A;go_roundw
     case rel=>exact⟨j+1,by omega,by go_num,G,R⟩
     case measure=>simp[intOf];omega
    ·have:j=8:=by omega
     subst this
     go_wp2
     go_roundw
     case rel=>exact⟨k+1,by omega,by go_num,s,A⟩
     case measure=>simp[intOf];omega
  ·have:k=8:=by omega
   subst this;obtain⟨g,D,rfl,hg⟩:=N1 s (by omega)
   go_wp2
   go_ret;exact⟨g,D,rfl,s,hg,A⟩
def tA (l:LI)(i:Nat):Int:=(l.getD i (0,0)).1
def tB (l:LI)(i:Nat):Int:=(l.getD i (0,0)).2
def Ts (w:gX)(v:gM)(l:LI):Prop:=
 ∃a cap,v=.slice a l.length cap/\l.length<=cap/\cap<=maxLen/\l.length<=2097152/\∀i:Nat,i<l.length->∃g off,a=some ⟨g,off,none⟩/\g<w.heap.size /\
  w.cell? ⟨g,off+i*2,none⟩=some (.int .i64 (tA l i))/\w.cell? ⟨g,off+i*2+1,none⟩=some (.int .i64 (tB l i))
theorem Ts.keep {w1:gX}(h:Ts w v l)(s:jO w.heap.size w w1):Ts w1 v l:=by
 obtain⟨a,A,rfl,h1,h2,h3,h4⟩:=h;refine⟨a,A,rfl,h1,h2,h3,fun i hi=>?_⟩;obtain⟨g,off,rfl,hg,D,c1⟩:=h4 i hi;exact⟨g,off,rfl,Nat.lt_of_lt_of_le hg s.size,cB s D,cB s c1⟩
def fR (l:LI)(i:Nat):Bool:=bM (tA l i) (tB l i)&&(decide (i=0)||(decide (tA l (i-1)<tA l i)&&decide (tB l i<tB l (i-1))))
def dA (l:LI):Bool:=(nT l.length).all (fR l)
theorem pJ (a:k<l.length)(h:fR l k=false):dA l=false:=by
 unfold dA;rw[List.all_eq_false];exact⟨k,by simpa using a,by simp[h]⟩
theorem AU (h:∀j,j<l.length->fR l j=true):dA l=true:=by
 unfold dA;rw[nB];intro j a;exact h j (by simpa using a)
theorem Eo (h:dA l=true)(a:j<l.length):fR l j=true:=by
 unfold dA at h;rw[nB]at h;exact h j (by simpa using a)
theorem AL {X Y:Int}(g:tA l 0=X)(a:tB l 0=Y):fR l 0=bM X Y:=by simp[fR,g,a]
theorem AK {m:Nat}{X Y A s:Int}(G:tA l (m+1)=X)(D:tB l (m+1)=Y)(g:tA l m=A)(a:tB l m=s):
  fR l (m+1)=(bM X Y&&(decide (A<X)&&decide (Y<s))):=by simp[fR,G,D,g,a]
theorem G8 (h:fR l 0=true)(a:j<1):fR l j=true:=by
 obtain rfl:j=0:=by omega
 exact h
theorem De (h:∀j,j<k->fR l j=true)(a:fR l k=true)(g:j<k+1):fR l j=true:=by
 by_cases e:j=k
 ·subst e;exact a
 ·exact h j (by omega)
theorem tX (v:gM)(l:LI)(w:gX)(h:Ts w v l):
  jB Tryz.prog 80 #[v] w fun e w'=>e=.returned (.bool (dA l))/\jO w.heap.size w w':=by
 obtain⟨a,y4,rfl,hc,hm,hn,G⟩:=h;unfold maxLen at hm;have HC:=(show Hid _ from G);clear G;go_enter Tryz.func80,Tryz.ntmps80;go_wp2_with fail
 go_loopw [7] (fun i wr=>∃k:Nat,k<=l.length/\i=.int .i64 k/\(∀j,j<k->fR l j=true)/\jO w.heap.size w wr) (fun i _=>l.length-(intOf i).toNat)
 case atStart=>exact⟨0,by omega,rfl,fun j J=>by omega,fM _ _⟩
 case round=>
  obtain⟨k,hk,rfl,D,Q⟩:=hrel
  by_cases I:k<l.length
  ·obtain⟨g,off,rfl,hg,c0,c1⟩:=HC.out k I;generalize hX:tA l k=X at*;generalize hY:tB l k=Y at*;have S:Hid (tA l k=X):=hX;have R:Hid (tB l k=Y):=hY;clear hX hY;have d0:=cB Q c0;have d1:=cB Q c1;have HA:=(show Hid _ from D);clear D c0 c1;go_wp2_with fail;refine (gW _ _ _).mono ?_;rintro e w1 ⟨rfl,h9⟩;have bt:=(Bk.new (w:=wr) #[.int .i64 X,.int .i64 Y] 32 rfl).keep h9;have A:jO w.heap.size w w1:=by
    repeat' (first|(with_reducible exact fM _ _)|(with_reducible assumption)|(with_reducible refine aG ?_ (by with_reducible assumption))|(with_reducible refine aH ?_ _)|(with_reducible refine gD ?_)|(with_reducible refine dV ?_ _)|(with_reducible refine fQ ?_ ?_ _)|(simp;done)|(simp;omega)|omega)
   cases ho:bM X Y
   ·have s:Hid (dA l=false):=pJ I (by simp[fR,S.out,R.out,ho]);go_wp2_with fail;go_ret;exact⟨rB s.out.symm,A⟩
   ·obtain⟨t0,t1,_,_⟩:=bt.two
    rcases k with _|m
    ·have H:fR l 0=true:=by rw[AL S.out R.out];exact ho
     go_wp2_with fail
     go_quiet (fail)
     go_wp2_with fail;exact⟨⟨1,by omega,rfl,fun j J=>G8 H J,dV A _⟩,by simp[intOf];omega⟩
    ·have W:m<l.length:=by omega
     have y2:(0:Int)<=(m:Int):=by omega
     have y1:(m:Int)<(l.length:Int):=by omega
     have y0:(l.length:Int)<=2097152:=by omega
     have iw:iP.i64.wrap (m:Int)=(m:Int):=by rw[iP.wrap_i64];omega
     obtain⟨g',x5,Z,y3,U,T⟩:=HC.out m W;simp at Z;obtain⟨rfl,rfl⟩:=Z;generalize O:tA l m=X' at *;generalize M:tB l m=Y' at *;have H:=AK S.out R.out O M;have L:=(show Hid _ from H);clear O M H;have q0:=cB A U;have q1:=cB A T;clear U T
     by_cases h1:X'<X
     ·by_cases h2:Y<Y'
      ·have V:Hid (fR l (m+1)=true):=by show _=true;rw[L.out,ho];simp[h1,h2]
       go_wp2_with fail
       go_quiet (fail)
       go_wp2_with fail;go_roundw
       case rel=>exact⟨m+1+1,by omega,by go_num,fun j J=>De HA.out V.out J,dV A _⟩
       case measure=>simp[intOf];omega
      ·have s:Hid (dA l=false):=pJ I (by rw[L.out];simp[h2]);go_wp2_with fail
       go_quiet (fail)
       go_wp2_with fail;go_ret;exact⟨rB s.out.symm,dV A _⟩
     ·have s:Hid (dA l=false):=pJ I (by rw[L.out];simp[h1]);go_wp2_with fail
      go_quiet (fail)
      go_wp2_with fail;go_ret;exact⟨rB s.out.symm,dV A _⟩
  ·have s:Hid (dA l=true):=AU fun j J=>D j (by omega);clear D;go_wp2_with fail;go_ret;exact⟨rB s.out.symm,Q⟩
theorem lB {a b:Int}{r:Bool}(h:bM a b=r)(w:gX):jB Tryz.prog 65 #[tv a b] w fun e g=>e=.returned (.bool r)/\jO w.heap.size w g:=by
 rw[<- h];exact fZ a b w
theorem uL (v:gM)(l:LI)(w:gX)(h:Ts w v l):
  jB Tryz.prog 68 #[v] w fun e w'=>e=.returned (.bool (dA l))/\jO w.heap.size w w':=by
 obtain⟨a,y4,rfl,hc,hm,hn,H⟩:=h;unfold maxLen at hm;have HC:=(show Hid _ from H);clear H;go_enter Tryz.func68,Tryz.ntmps68;go_wp2_with fail
 go_loopw [3] (fun i wr=>∃k:Nat,k<=l.length/\i=.int .i64 k/\(∀j,j<k->fR l j=true)/\jO w.heap.size w wr) (fun i _=>l.length-(intOf i).toNat)
 case atStart=>exact⟨0,by omega,rfl,fun j M=>by omega,fM _ _⟩
 case round=>
  obtain⟨k,hk,rfl,G,D⟩:=hrel
  by_cases L:k<l.length
  ·obtain⟨g,off,rfl,hg,I,c1⟩:=HC.out k L;generalize hX:tA l k=X at*;generalize hY:tB l k=Y at*;have W:Hid (tA l k=X):=hX;have V:Hid (tB l k=Y):=hY;clear hX hY;have HA:=(show Hid _ from G);clear G;have hne:=lG wr;have ik:((k:Int)<(l.length:Int)):=by omega
   cases ho:bM X Y
   ·have d0:∀p:eC wr,p.ww.cell? ⟨g,off+k*2,none⟩=some (.int .i64 X):=fun p=>cB p.below (cB D I);have d1:∀p:eC wr,p.ww.cell? ⟨g,off+k*2+1,none⟩=some (.int .i64 Y):=fun p=>cB p.below (cB D c1);have A:Hid (dA l=false):=pJ L (by simp[fR,W.out,V.out,ho]);clear I c1;go_wp2_with fail
    (refine lF (by kernel_rfl) (by kernel_rfl) ?_;(repeat (go_big_quiet_step ((first|(go_at_call 65;exact jS (lB (by with_reducible assumption) _))))));refine gQ ?_)
    intro w1 s
    replace s:=kU s
    go_wp2_with fail;go_ret;refine⟨rB A.out.symm,?_⟩
    repeat' (first|(with_reducible exact fM _ _)|(with_reducible assumption)|(with_reducible refine aG ?_ (by with_reducible assumption))|(with_reducible refine aH ?_ _)|(with_reducible refine gD ?_)|(with_reducible refine dV ?_ _)|(with_reducible refine fQ ?_ ?_ _)|(simp;done)|(simp;omega)|omega)
   ·rcases k with _|m
    ·have J:fR l 0=true:=by rw[AL W.out V.out];exact ho
     simp only[Nat.zero_mul,Nat.add_zero]at I c1;have d0:∀p:eC wr,p.ww.cell? ⟨g,off,none⟩=some (.int .i64 X):=fun p=>cB p.below (cB D I);have d1:∀p:eC wr,p.ww.cell? ⟨g,off+1,none⟩=some (.int .i64 Y):=fun p=>cB p.below (cB D c1);clear I c1;go_wp2_with fail
     (refine lF (by kernel_rfl) (by kernel_rfl) ?_;(repeat (go_big_quiet_step ((first|(go_at_call 65;exact jS (lB (by with_reducible assumption) _))))));refine gQ ?_)
     intro w1 s
     replace s:=kU s
     have O:=aG D s;go_wp2_with fail;exact⟨⟨1,by omega,rfl,fun j M=>G8 J M,O⟩,by simp[intOf];omega⟩
    ·have x1:m<l.length:=by omega
     have y2:(0:Int)<=(m:Int):=by omega
     have y1:(m:Int)<(l.length:Int):=by omega
     have y0:(l.length:Int)<=2097152:=by omega
     have iw:iP.i64.wrap (m:Int)=(m:Int):=by rw[iP.wrap_i64];omega
     obtain⟨g',x8,he,y3,p0,Z⟩:=HC.out m x1;simp at he;obtain⟨rfl,rfl⟩:=he;generalize U:tA l m=S at *;generalize T:tB l m=R at *;have J:=AK W.out V.out U T;have Q:=(show Hid _ from J);clear U T J;have d0:∀p:eC wr,p.ww.cell? ⟨g,off+(m+1)*2,none⟩=some (.int .i64 X):=fun p=>cB p.below (cB D I);have d1:∀p:eC wr,p.ww.cell? ⟨g,off+(m+1)*2+1,none⟩=some (.int .i64 Y):=fun p=>cB p.below (cB D c1);have e0:∀p:eC wr,p.ww.cell? ⟨g,off+m*2,none⟩=some (.int .i64 S):=fun p=>cB p.below (cB D p0);have e1:∀p:eC wr,p.ww.cell? ⟨g,off+m*2+1,none⟩=some (.int .i64 R):=fun p=>cB p.below (cB D Z);clear I c1 p0 Z
     by_cases h1:S<X
     ·by_cases h2:Y<R
      ·have x0:Hid (fR l (m+1)=true):=by show _=true;rw[Q.out,ho];simp[h1,h2]
       have n1:decide (X<=S)=false:=by simp;omega
       have n2:decide (R<=Y)=false:=by simp;omega
       go_wp2_with fail
       (refine lF (by kernel_rfl) (by kernel_rfl) ?_;(repeat (go_big_quiet_step ((first|(go_at_call 65;exact jS (lB (by with_reducible assumption) _))))));refine gQ ?_)
       intro w1 s
       replace s:=kU s
       have O:=aG D s;go_wp2_with fail;go_roundw
       case rel=>exact⟨m+1+1,by omega,by go_num,fun j M=>De HA.out x0.out M,O⟩
       case measure=>simp[intOf];omega
      ·have A:Hid (dA l=false):=pJ L (by rw[Q.out];simp[h2]);have n1:decide (X<=S)=false:=by simp;omega
       have n2:decide (R<=Y)=true:=by simp;omega
       go_wp2_with fail
       (refine lF (by kernel_rfl) (by kernel_rfl) ?_;(repeat (go_big_quiet_step ((first|(go_at_call 65;exact jS (lB (by with_reducible assumption) _))))));refine gQ ?_)
       intro w1 s
       replace s:=kU s
       go_wp2_with fail;go_ret;refine⟨rB A.out.symm,?_⟩
       repeat' (first|(with_reducible exact fM _ _)|(with_reducible assumption)|(with_reducible refine aG ?_ (by with_reducible assumption))|(with_reducible refine aH ?_ _)|(with_reducible refine gD ?_)|(with_reducible refine dV ?_ _)|(with_reducible refine fQ ?_ ?_ _)|(simp;done)|(simp;omega)|omega)
     ·have A:Hid (dA l=false):=pJ L (by rw[Q.out];simp[h1]);go_wp2_with fail
      (refine lF (by kernel_rfl) (by kernel_rfl) ?_;(repeat (go_big_quiet_step ((first|(go_at_call 65;exact jS (lB (by with_reducible assumption) _))))));refine gQ ?_)
      intro w1 s
      replace s:=kU s
      go_wp2_with fail;go_ret;refine⟨rB A.out.symm,?_⟩
      repeat' (first|(with_reducible exact fM _ _)|(with_reducible assumption)|(with_reducible refine aG ?_ (by with_reducible assumption))|(with_reducible refine aH ?_ _)|(with_reducible refine gD ?_)|(with_reducible refine dV ?_ _)|(with_reducible refine fQ ?_ ?_ _)|(simp;done)|(simp;omega)|omega)
  ·have A:Hid (dA l=true):=AU fun j M=>G j (by omega);clear G;go_wp2_with fail;go_ret;exact⟨rB A.out.symm,D⟩
theorem Bk.cell {c:Array gM}{t:iM}(h:Bk w k c t){i:Nat}(hi:c[i]?=some v):w.cell? ⟨k,i,none⟩=some v:=by
 unfold Bk at h;simp[gX.cell?,h,hi]
theorem Bk.free {c:Array gM}{t:iM}(h:Bk w k c t)(i:Nat):w.frozen? ⟨k,i,none⟩=false:=by
 unfold Bk at h;simp[gX.frozen?,h]
def jM (c:Array gM)(l:LI)(k:Nat):Prop:=
 ∀i,i<k->c[i*2]?=some (.int .i64 (tA l i))/\c[i*2+1]?=some (.int .i64 (tB l i))
open Go.ChangeShapes Go.WideShapes Go.ChangeAt Go.Joins
end Go.Proofs.YtbdpcngcbnoioaaGreatDoor
